/-
  Contracts of Go's library, laid at this program: strings.Join and strconv.Itoa. Their conditions stand in their statements.
-/
import Derived.Shelf.Strings.OnBuilder
import Derived.Shelf.LaysM
import Derived.Shelf.Strconv.Itoa3
import Derived.Test.YtacfoeekmcnpjaaGreatDoorProg
namespace Go.Proofs
open Go.Shelf
set_option linter.unusedVariables false
set_option maxRecDepth 100000
set_option maxHeartbeats 25600000
def Tryz.lays156_ren : Go.Shelf.Ren := ⟨fun | 156 => 242 | 165 => 261 | 166 => 262 | 169 => 263 | 240 => 277 | 241 => 278 | 276 => 289 | 277 => 290 | n => n, fun | 31 => 201 | 9 => 9 | 3 => 3 | 4 => 4 | 0 => 0 | 20 => 20 | 72 => 348 | 76 => 352 | 70 => 346 | 37 => 260 | 75 => 351 | 127 => 375 | 164 => 385 | 5 => 5 | 80 => 354 | n => n, fun | n => n⟩
theorem Tryz.lays156 : Go.Proofs.Lays.n156 Tryz.prog Tryz.lays156_ren := {
 mixed := by kernel_rfl
 f156 := Tryz.func242.trans (congrArg some (by kernel_rfl))
 f165 := Tryz.func261.trans (congrArg some (by kernel_rfl))
 f166 := Tryz.func262.trans (congrArg some (by kernel_rfl))
 f169 := Tryz.func263.trans (congrArg some (by kernel_rfl))
 f240 := Tryz.func277.trans (congrArg some (by kernel_rfl))
 f241 := Tryz.func278.trans (congrArg some (by kernel_rfl))
 f276 := Tryz.func289.trans (congrArg some (by kernel_rfl))
 f277 := Tryz.func290.trans (congrArg some (by kernel_rfl))
 t0 := Tryz.underlying0
 a0 := Tryz.isAgg0
 z0 := Tryz.sizeOf0
 v0 := Tryz.zeroValue0
 t3 := Tryz.underlying3
 a3 := Tryz.isAgg3
 z3 := Tryz.sizeOf3
 v3 := Tryz.zeroValue3
 t4 := Tryz.underlying4
 a4 := Tryz.isAgg4
 z4 := Tryz.sizeOf4
 v4 := Tryz.zeroValue4
 t9 := Tryz.underlying9
 a9 := Tryz.isAgg9
 z9 := Tryz.sizeOf9
 v9 := Tryz.zeroValue9
 t20 := Tryz.underlying20
 a20 := Tryz.isAgg20
 z20 := Tryz.sizeOf20
 v20 := Tryz.zeroValue20
 t31 := Tryz.underlying201
 a31 := Tryz.isAgg201
 z31 := Tryz.sizeOf201
 v31 := Tryz.zeroValue201
 t37 := Tryz.underlying260
 a37 := Tryz.isAgg260
 z37 := Tryz.sizeOf260
 v37 := Tryz.zeroValue260
 t70 := Tryz.underlying346
 a70 := Tryz.isAgg346
 z70 := Tryz.sizeOf346
 v70 := Tryz.zeroValue346
 t72 := Tryz.underlying348
 a72 := Tryz.isAgg348
 z72 := Tryz.sizeOf348
 v72 := Tryz.zeroValue348
 t75 := Tryz.underlying351
 a75 := Tryz.isAgg351
 z75 := Tryz.sizeOf351
 v75 := Tryz.zeroValue351
 t76 := Tryz.underlying352
 a76 := Tryz.isAgg352
 z76 := Tryz.sizeOf352
 v76 := Tryz.zeroValue352
 t127 := Tryz.underlying375
 a127 := Tryz.isAgg375
 z127 := Tryz.sizeOf375
 v127 := Tryz.zeroValue375
 t164 := Tryz.underlying385
 a164 := Tryz.isAgg385
 z164 := Tryz.sizeOf385
 v164 := Tryz.zeroValue385 }
theorem Tryz.Builder_Extra_156 : Builder.Extra Tryz.prog Tryz.lays156_ren := {
 sizeBuilder := by kernel_rfl
 liesBuilder := by kernel_rfl
 t5 := Tryz.underlying5
 a5 := Tryz.isAgg5
 z5 := Tryz.sizeOf5
 v5 := Tryz.zeroValue5
 infoByte := by kernel_rfl
 cellsByte := by kernel_rfl
 sizeByte := by kernel_rfl
 neB5 := by decide }
open Go.RowKit in
theorem Tryz.strings_Join_none (a : Option Addr) (c : Nat) (sep : ByteArray) (w : World) :
  Calls Tryz.prog 242 #[.slice a 0 c, .string sep] w fun e w' => e = .returned (.string ⟨#[]⟩) /\ w' = w := Any.strings_Join_none Tryz.lays156 Tryz.Builder_Extra_156 a c sep w
open Go.RowKit in
theorem Tryz.strings_Join (bk o c : Nat) (xs : List ByteArray) (sep : ByteArray) (w : World) (hcells : ∀ (j : Nat) x, xs[j]? = some x -> w.cell? ⟨bk, o + j, none⟩ = some (.string x)) (hbk : bk < w.heap.size) (hN : xs.length <= 140737488355328) (hcap : xs.length <= c) (hlen : (Lib.join (xs.map (·.data.toList)) sep.data.toList).length <= 140737488355328) :
  Calls Tryz.prog 242 #[.slice (some ⟨bk, o, none⟩) xs.length c, .string sep] w fun e w' => e = .returned (.string ⟨(Lib.join (xs.map (·.data.toList)) sep.data.toList).toArray⟩) /\ Below w.heap.size w w' := Any.strings_Join Tryz.lays156 Tryz.Builder_Extra_156 bk o c xs sep w hcells hbk hN hcap hlen
def Tryz.laysM171_ren : Go.Shelf.Ren := ⟨fun | 171 => 241 | 243 => 260 | 246 => 276 | 283 => 285 | 284 => 286 | 285 => 287 | 286 => 288 | 129 => 300 | 317 => 299 | 318 => 301 | 319 => 302 | 320 => 303 | 337 => 313 | 338 => 314 | n => n, fun | 3 => 3 | 9 => 9 | 2 => 2 | 4 => 4 | 171 => 379 | 0 => 0 | 53 => 380 | 37 => 260 | 5 => 5 | 173 => 383 | 212 => 393 | 51 => 394 | 20 => 20 | 213 => 395 | 46 => 396 | 232 => 406 | 233 => 407 | n => n, fun | 17 => 0 | 18 => 2 | 19 => 3 | n => n⟩
theorem Tryz.laysM171 : Go.Proofs.LaysM.n171 Tryz.prog Tryz.laysM171_ren := {
 mixed := by kernel_rfl
 f129 := Tryz.func300.trans (congrArg some (by kernel_rfl))
 f171 := Tryz.func241.trans (congrArg some (by kernel_rfl))
 f243 := Tryz.func260.trans (congrArg some (by kernel_rfl))
 f246 := Tryz.func276.trans (congrArg some (by kernel_rfl))
 f283 := Tryz.func285.trans (congrArg some (by kernel_rfl))
 f284 := Tryz.func286.trans (congrArg some (by kernel_rfl))
 f285 := Tryz.func287.trans (congrArg some (by kernel_rfl))
 f286 := Tryz.func288.trans (congrArg some (by kernel_rfl))
 f317 := Tryz.func299.trans (congrArg some (by kernel_rfl))
 f318 := Tryz.func301.trans (congrArg some (by kernel_rfl))
 f319 := Tryz.func302.trans (congrArg some (by kernel_rfl))
 f320 := Tryz.func303.trans (congrArg some (by kernel_rfl))
 f337 := Tryz.func313.trans (congrArg some (by kernel_rfl))
 f338 := Tryz.func314.trans (congrArg some (by kernel_rfl))
 t0 := Tryz.underlying0
 a0 := Tryz.isAgg0
 z0 := Tryz.sizeOf0
 v0 := Tryz.zeroValue0
 t2 := Tryz.underlying2
 a2 := Tryz.isAgg2
 z2 := Tryz.sizeOf2
 v2 := Tryz.zeroValue2
 t3 := Tryz.underlying3
 a3 := Tryz.isAgg3
 z3 := Tryz.sizeOf3
 v3 := Tryz.zeroValue3
 t4 := Tryz.underlying4
 a4 := Tryz.isAgg4
 z4 := Tryz.sizeOf4
 v4 := Tryz.zeroValue4
 t5 := Tryz.underlying5
 a5 := Tryz.isAgg5
 z5 := Tryz.sizeOf5
 v5 := Tryz.zeroValue5
 t9 := Tryz.underlying9
 a9 := Tryz.isAgg9
 z9 := Tryz.sizeOf9
 v9 := Tryz.zeroValue9
 t20 := Tryz.underlying20
 a20 := Tryz.isAgg20
 z20 := Tryz.sizeOf20
 v20 := Tryz.zeroValue20
 t37 := Tryz.underlying260
 a37 := Tryz.isAgg260
 z37 := Tryz.sizeOf260
 v37 := Tryz.zeroValue260
 t46 := Tryz.underlying396
 a46 := Tryz.isAgg396
 z46 := Tryz.sizeOf396
 v46 := Tryz.zeroValue396
 t51 := Tryz.underlying394
 a51 := Tryz.isAgg394
 z51 := Tryz.sizeOf394
 v51 := Tryz.zeroValue394
 t53 := Tryz.underlying380
 a53 := Tryz.isAgg380
 z53 := Tryz.sizeOf380
 v53 := Tryz.zeroValue380
 t171 := Tryz.underlying379
 a171 := Tryz.isAgg379
 z171 := Tryz.sizeOf379
 v171 := Tryz.zeroValue379
 t173 := Tryz.underlying383
 a173 := Tryz.isAgg383
 z173 := Tryz.sizeOf383
 v173 := Tryz.zeroValue383
 t212 := Tryz.underlying393
 a212 := Tryz.isAgg393
 z212 := Tryz.sizeOf393
 v212 := Tryz.zeroValue393
 t213 := Tryz.underlying395
 a213 := Tryz.isAgg395
 z213 := Tryz.sizeOf395
 t232 := Tryz.underlying406
 a232 := Tryz.isAgg406
 z232 := Tryz.sizeOf406
 v232 := Tryz.zeroValue406
 t233 := Tryz.underlying407
 a233 := Tryz.isAgg407
 z233 := Tryz.sizeOf407
 v233 := Tryz.zeroValue407
 g17 := by kernel_rfl
 g18 := by kernel_rfl
 g19 := by kernel_rfl
 i0 := by kernel_rfl
 i2 := by kernel_rfl
 i3 := by kernel_rfl
 i4 := by kernel_rfl
 i5 := by kernel_rfl
 i9 := by kernel_rfl
 i20 := by kernel_rfl
 i37 := by kernel_rfl
 i46 := by kernel_rfl
 i51 := by kernel_rfl
 i53 := by kernel_rfl
 i171 := by kernel_rfl
 i173 := by kernel_rfl
 i212 := by kernel_rfl
 i232 := by kernel_rfl
 i233 := by kernel_rfl
 m17 := by kernel_rfl
 m18 := by kernel_rfl
 m19 := by kernel_rfl }
open Go.RowKit Go.Sort Go.Lib in
theorem Tryz.strconv_Itoa (n : Int) (h0 : -9223372036854775808 <= n) (h1 : n <= 9223372036854775807) (w : World) (htab : Lib.TabIs Tryz.prog w "internal/strconv.uint64pow10" .u64 Lib.pow10Tab) :
  Calls Tryz.prog 241 #[.int .i64 n] w fun e w' => e = .returned (.string ⟨(Lib.itoa n).toArray⟩) /\ ∃ k os, w' = grow (w.drewN k) os := Any.strconv_Itoa Tryz.laysM171 n h0 h1 w htab
end Go.Proofs
