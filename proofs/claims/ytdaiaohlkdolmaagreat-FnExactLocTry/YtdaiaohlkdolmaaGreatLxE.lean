/-
  Lemmas that the claim's last text rests on.
-/
import Derived.Test.YtdaiaohlkdolmaaGreatLxD
namespace Go.Proofs.YtdaiaohlkdolmaaGreat
open Go.ChangeShapes Go.WideShapes Go.ChangeAt Go.RowKit Go.Joins Go.Deep
open World renaming size_alloc → qA
open List renaming getElem?_set_ne → qB, length_append → qC, getElem?_append_right → qD, getElem?_append_left → qE, getElem?_set_self → qF, length_cons → qG, length_nil → qH
open Nat renaming le_refl → qI, zero_le → qJ
set_option linter.unusedVariables false
set_option maxRecDepth 100000
set_option maxHeartbeats 25600000
variable {B N cap cap' lo m n o : Nat} {C D : List Int} {K kind pot skip : Int} {W w w' : World} {a ad c : Option Addr} {p q : Nat -> Nat} {vs : List Value} {x0 x1 x2 x3 x4 x5 : Value}
structure LV where
 kind : Int
 pot : Int
 skip : Int
 f : FV
def LV.cs (l : LV) : List Value := [.int .i64 l.kind, .int .i64 l.pot, .int .i64 l.skip, .slice l.f.a l.f.n l.f.cap, .slice l.f.c l.f.m l.f.cap', .int .i64 l.f.K]
def noLV : LV := ⟨0, 0, 0, noFV⟩
def smallB (n m : Nat) (C D : List Int) (K : Int) : Bool := okN 3 2 n C && okN 2 2 m D && inB K (-20) 20
theorem allB_mono {m m' : Int} {zs : List Int} (h : m <= m') (ha : allB m zs = true) : allB m' zs = true := by
 unfold allB at *;rw [List.all_eq_true] at *;intro x hx;have := inB_iff.1 (ha x hx)
 exact inB_iff.2 (by omega)
theorem small_ok (h : smallB n m C D K = true) : formB n m C D K = true := by
 simp only [smallB, formB, okN, Bool.and_eq_true, decide_eq_true_eq] at *;obtain ⟨⟨⟨h1, h2⟩, h3, h4⟩, h5⟩ := h
 exact ⟨⟨⟨h1, allB_mono (by omega) h2⟩, h3, allB_mono (by omega) h4⟩, inB_iff.2 (by have := inB_iff.1 h5; omega)⟩
theorem small_eq (h : formB n m C D K = true) : smallB n m C D K = (allB 2 C && allB 2 D && inB K (-20) 20) := by
 simp only [formB, okN, Bool.and_eq_true, decide_eq_true_eq] at h;obtain ⟨⟨⟨h1, _⟩, h3, _⟩, _⟩ := h;simp only [smallB, okN, h1, h3, decide_true, Bool.true_and]
theorem sSmall_any (C D : List Int) {w : World} (hC : Ints w a n C) (hD : Ints w c m D) (hn : n <= 1048576) (hm : m <= 1048576) :
  Calls Tryz.prog 103 #[formV a n cap c m cap' K] w fun e w' => e = .returned (.bool (smallB n m C D K)) /\ Below w.heap.size w w' := by
 cases h1 : okN 3 2 n C
 ·go_enter Tryz.func103, Tryz.ntmps103
  go_wp2_with fail
  refine (all_any C _ _ (hC.alloc _) hn).mono ?_;rintro e w1 ⟨rfl, rfl⟩
  go_wp2
  go_ret
  exact ⟨ret_bool (by simp [smallB, h1]), bal⟩
 cases h2 : okN 2 2 m D
 ·go_enter Tryz.func103, Tryz.ntmps103
  go_wp2_with fail
  refine (all_any C _ _ (hC.alloc _) hn).mono ?_;rintro e w1 ⟨rfl, rfl⟩
  go_wp2_with fail
  refine (all_any D _ _ (hD.alloc _) hm).mono ?_;rintro e w1 ⟨rfl, rfl⟩
  go_wp2
  go_ret
  exact ⟨ret_bool (by simp [smallB, h1, h2]), bal⟩
 go_enter Tryz.func103, Tryz.ntmps103
 go_wp2_with fail
 refine (all_any C _ _ (hC.alloc _) hn).mono ?_;rintro e w1 ⟨rfl, rfl⟩
 go_wp2_with fail
 refine (all_any D _ _ (hD.alloc _) hm).mono ?_;rintro e w1 ⟨rfl, rfl⟩
 go_wp2_with fail
 refine (in_any).mono ?_;rintro e w1 ⟨rfl, rfl⟩
 go_wp2
 go_ret
 exact ⟨ret_bool (by simp [smallB, h1, h2]), bal⟩
def LinesM (w : World) (ad : Option Addr) (ls : List LV) : Prop :=
 ∀ i, i < ls.length -> ∃ b off, ad = some ⟨b, off, none⟩ /\ (∀ r, r < 6 -> w.cell? ⟨b, off + i * 6 + r, none⟩ = (ls[i]?.getD noLV).cs[r]?) /\
  Ints w (ls[i]?.getD noLV).f.a (ls[i]?.getD noLV).f.n (ls[i]?.getD noLV).f.C /\ Ints w (ls[i]?.getD noLV).f.c (ls[i]?.getD noLV).f.m (ls[i]?.getD noLV).f.D /\ (ls[i]?.getD noLV).f.n <= maxLen /\ (ls[i]?.getD noLV).f.m <= maxLen
def lineB (kind pot skip : Int) (n m : Nat) (C D : List Int) (K : Int) : Bool :=
 if kind = 1 then (pot == 0) && inB skip 1 6 && smallB n m C D K
 else if kind = 2 then inB pot 0 2 && (skip == 0) && smallB n m C D K
 else if kind = 3 then (pot == 0) && (skip == 0) && smallB n m C D K
 else (kind == 4) && (pot == 0) && (skip == 0) && ((n : Int) + m == 0) && (K == 0)
theorem open_sliceC {α : Type} (d0 : α) (cf : α -> List Value) {H : Type} {enc : TypeId × Value -> H} {W : World} (R : α -> Prop) {S E : TypeId} {c : Nat} (hc : 0 < c) (hS : Tryz.prog.underlying S = some (.slice E)) (hE : Tryz.prog.cellsOf E = c) (hlen : ∀ a, (cf a).length = c)
  (hel : ∀ (fuel : Nat) (cs : List Value) (x : DataW H × List MemPlace), DataW.trod enc Tryz.prog W 0 (fun _ => true) true fuel E cs = some x -> ∃ a, cs = cf a /\ R a) {fuel : Nat} {v : Value} {y : DataW H × List MemPlace}
  (hf : DataW.trod enc Tryz.prog W 0 (fun _ => true) true fuel S [v] = some y) :
  ∃ (ad : Option Addr) (N cap : Nat) (xs : List α), v = .slice ad N cap /\ xs.length = N /\ N <= maxLen /\ ∀ i, i < xs.length -> ∃ b off, ad = some ⟨b, off, none⟩ /\ (∀ r, r < c -> W.cell? ⟨b, off + i * c + r, none⟩ = (cf (xs[i]?.getD d0))[r]?) /\ R (xs[i]?.getD d0) := by
 rcases open_slice hS hf with ⟨hcs, _⟩ | ⟨a, len, cap, m, n, D, Pl, hcs, _, hl, hm, hmm, _, hall⟩
 ·simp at hcs
  exact ⟨none, 0, 0, [], hcs, rfl, by unfold maxLen; omega, fun i hi => by simp at hi⟩
 simp at hcs;obtain rfl : m = cap := by simpa using hmm
 rw [hE] at hall
 have hex : ∀ i, i < len -> ∃ f : α, W.cells? 0 (a.add (i * c)) c = some (cf f) /\ R f := fun i hi => by
  obtain ⟨cs', h1, h2⟩ := hall i (by omega);obtain ⟨f, rfl, h3⟩ := hel _ _ _ h2
  exact ⟨f, h1, h3⟩
 have : ∃ F : Nat -> α, ∀ i, i < len -> W.cells? 0 (a.add (i * c)) c = some (cf (F i)) /\ R (F i) := by
  classical
  refine ⟨fun i => if hi : i < len then Classical.choose (hex i hi) else d0, fun i hi => ?_⟩;simp only [dif_pos hi]
  exact Classical.choose_spec (hex i hi)
 obtain ⟨F, hF⟩ := this;refine ⟨some a, len, m, (List.range len).map F, hcs, by simp, by omega, fun i hi => ?_⟩;have hi' : i < len := by simpa using hi
 have hg : ((List.range len).map F)[i]?.getD d0 = F i := by simp [hi']
 rw [hg];obtain ⟨h1, h2⟩ := hF i hi';obtain ⟨b, off, spot⟩ := a
 have hspot : spot = none := by
  have h0 := (World.cells?_some (hF 0 (by omega)).1).2.2 0 hc;have h3 : ∃ x, (cf (F 0))[0]? = some x := ⟨_, List.getElem?_eq_getElem (by rw [hlen]; exact hc)⟩
  obtain ⟨x, h3⟩ := h3;rw [h3] at h0;simpa [Addr.add] using World.cell?_spot h0
 subst hspot
 have hadd : (⟨b, off, none⟩ : Addr).add (i * c) = ⟨b, off + i * c, none⟩ := by
  by_cases h0 : i * c = 0
  ·rw [h0]; simp [Addr.add]
  simp [Addr.add, h0]
 rw [hadd] at h1
 exact ⟨b, off, rfl, fun r hr => cells_at h1 r hr, h2⟩
theorem open_sliceT {α : Type} (d0 : α) (cf : α -> List Value) {H : Type} {enc : TypeId × Value -> H} {W : World} (R : α -> Prop) {S E : TypeId} {c : Nat} (hc : 0 < c) (hS : Tryz.prog.underlying S = some (.slice E)) (hE : Tryz.prog.cellsOf E = c) (hlen : ∀ a, (cf a).length = c)
  (hel : ∀ (fuel : Nat) (cs : List Value) (x : DataW H × List MemPlace), DataW.trod enc Tryz.prog W 0 (fun _ => true) true fuel E cs = some x -> ∃ a, cs = cf a /\ R a) {r : Reach} {b0 : Nat} {v : Value} {d : DataW H} {p : List MemPlace}
  (hv : Value.okWide Tryz.prog W r b0 S v) (h : DataW.Trod enc Tryz.prog W 0 (fun _ => true) true S v d p) :
  ∃ (ad : Option Addr) (N cap : Nat) (xs : List α), v = .slice ad N cap /\ xs.length = N /\ N <= maxLen /\ ∀ i, i < xs.length -> ∃ b off, ad = some ⟨b, off, none⟩ /\ (∀ r, r < c -> W.cell? ⟨b, off + i * c + r, none⟩ = (cf (xs[i]?.getD d0))[r]?) /\ R (xs[i]?.getD d0) := by
 obtain ⟨a0, len0, cap0, rfl⟩ := okWide_slice hS hv;obtain ⟨fuel, hf⟩ := h
 exact open_sliceC d0 cf R hc hS hE hlen hel (by simpa [Value.cells] using hf)
abbrev lineV (kind pot skip : Int) (a : Option Addr) (n cap : Nat) (c : Option Addr) (m cap' : Nat) (K : Int) : Value := .agg #[.int .i64 kind, .int .i64 pot, .int .i64 skip, .slice a n cap, .slice c m cap', .int .i64 K]
theorem Cel.six {t : TypeId} (h : Cel w B [x0, x1, x2, x3, x4, x5] t) : w.cell? ⟨B, 0, none⟩ = some x0 /\ w.cell? ⟨B, 1, none⟩ = some x1 /\ w.cell? ⟨B, 2, none⟩ = some x2 /\ w.cell? ⟨B, 3, none⟩ = some x3 /\ w.cell? ⟨B, 4, none⟩ = some x4 /\ w.cell? ⟨B, 5, none⟩ = some x5 := ⟨h.cell 0, h.cell 1, h.cell 2, h.cell 3, h.cell 4, h.cell 5⟩
theorem Cel.frees {t : TypeId} (h : Cel w B vs t) : w.frozen? ⟨B, 0, none⟩ = false /\ w.frozen? ⟨B, 1, none⟩ = false /\ w.frozen? ⟨B, 2, none⟩ = false /\ w.frozen? ⟨B, 3, none⟩ = false /\ w.frozen? ⟨B, 4, none⟩ = false /\ w.frozen? ⟨B, 5, none⟩ = false := ⟨h.free 0, h.free 1, h.free 2, h.free 3, h.free 4, h.free 5⟩
structure BL (w : World) (B : Nat) (la : List Value) (ty : TypeId) (W : World) : Prop where
 p : Cel W B la ty
 b : Below w.heap.size w W
theorem BL.new (w : World) (la : List Value) (ty : TypeId) : BL w w.heap.size la ty (w.alloc (.cells la.toArray ty)) := ⟨Cel.new w la ty, bal⟩
theorem BL.below {W' : World} {la : List Value} {ty : TypeId} (h : BL w B la ty W) (b : Below W.heap.size W W') : BL w B la ty W' := ⟨h.p.below b, h.b.trans (b.mono h.b.size)⟩
theorem BL.alloc {la : List Value} {ty : TypeId} (h : BL w B la ty W) (o : Obj) : BL w B la ty (W.alloc o) := h.below (bal)
theorem szL_any {l : Int} (hn : n <= maxLen) (hm : m <= maxLen) (h0 : 0 <= l) (hl : l <= 1048576) :
  Calls Tryz.prog 44 #[lineV kind pot skip a n cap c m cap' K, .int .i64 l] w fun e w' => e = .returned (.int .i64 (leftOf (leftOf l n) m)) /\ Below w.heap.size w w' := by
 have g2 := leftOf_ge (leftOf l n) m;have n0 := BL.new w [.int .i64 kind, .int .i64 pot, .int .i64 skip, .slice a n cap, .slice c m cap', .int .i64 K] 78
 by_cases h : leftOf (leftOf l n) m < 0
 ·go_enter Tryz.func44, Tryz.ntmps44
  go_wp2_with fail
  refine (szF_any hn hm h0 hl).mono ?_;rintro e w1 ⟨rfl, b1⟩
  go_wp2
  go_ret
  exact ⟨ret_int (by omega), (n0.below b1).b⟩
 go_enter Tryz.func44, Tryz.ntmps44
 go_wp2_with fail
 refine (szF_any hn hm h0 hl).mono ?_;rintro e w1 ⟨rfl, b1⟩
 go_wp2
 go_ret
 exact ⟨rfl, (n0.below b1).b⟩
theorem toL_any (C D : List Int) {w : World} (hC : Ints w a n C) (hD : Ints w c m D) (hn : n <= 1048576) (hm : m <= 1048576) :
  Calls Tryz.prog 59 #[lineV kind pot skip a n cap c m cap' K] w fun e w' => ∃ B1 B2, e = .returned (lineV kind pot skip (some ⟨B1, 0, none⟩) n n (some ⟨B2, 0, none⟩) m m K) /\ Below w.heap.size w w' /\ w.heap.size <= B1 /\ B1 < B2 /\ Blk w' B1 C /\ Blk w' B2 D := by
 go_enter Tryz.func59, Tryz.ntmps59
 go_wp2_with fail
 refine (toF_any C D (((hC.alloc _).alloc _).alloc _) (((hD.alloc _).alloc _).alloc _) hn hm).mono ?_;rintro e w1 ⟨B1, B2, rfl, b1, o1, o2, k1, k2⟩;have rr := ((Cel.new (w.alloc _) _ _).alloc _).below b1;have rx := (Cel.new ((w.alloc _).alloc _) _ _).below b1;rw [qA] at rr;rw [qA, qA] at rx;rw [qA, qA, qA] at o1;have B3 : Below w.heap.size w w1 := (((bal).alloc (by simp) _).alloc (by simp; omega) _).trans (b1.mono (by simp; omega));have s1 := k1.lt;have s2 := k2.lt;clear b1;obtain ⟨d0, d1, d2, d3, d4, d5⟩ := rx.six;obtain ⟨e0, e1, e2, e3, e4, e5⟩ := rr.six;obtain ⟨f0, f1, f2, f3, f4, f5⟩ := rx.frees;obtain ⟨h0, h1, h2, h3, h4, h5⟩ := rr.frees;have hlt1 : w.heap.size + 1 < w1.heap.size := by omega
 have hlt2 : w.heap.size + 1 + 1 < w1.heap.size := by omega
 go_wp2
 refine bodyPost_ret (v := lineV kind pot skip (some ⟨B1, 0, none⟩) n n (some ⟨B2, 0, none⟩) m m K) (by simp [results, Tryz.results59, go_sem, e0, e1, e2, e3, e4, e5]) rfl ⟨B1, B2, rfl, ?_, by omega, o2, ?_, ?_⟩
 ·exact ((((((((B3.setCell (by simp only []; omega) _).setCell (by simp only []; omega) _).setCell (by simp only []; omega) _).setCell (by simp only []; omega) _).setCell (by simp only []; omega) _).setCell (by simp only []; omega) _).setCell (by simp only []; omega) _).setCell (by simp only []; omega) _).setCell (by simp only []; omega) _
 ·exact ((((((((k1.so).so).so).so).so).so).so).so).so
 exact ((((((((k2.so).so).so).so).so).so).so).so).so
theorem eqL_same (C D : List Int) {a' : Option Addr} {n' cap2 : Nat} {c' : Option Addr} {m' cap3 : Nat} {K' : Int} (C' D' : List Int) {w : World}
  (hC : Ints w a n C) (hD : Ints w c m D) (hC' : Ints w a' n' C') (hD' : Ints w c' m' D') (hn : n <= 1048576) (hm : m <= 1048576) (hn' : n' <= 1048576) (hm' : m' <= 1048576) (he : eqF C D K C' D' K' = true) :
  Calls Tryz.prog 79 #[lineV kind pot skip a n cap c m cap' K, lineV kind pot skip a' n' cap2 c' m' cap3 K'] w fun e w' => e = .returned (.bool true) /\ Below w.heap.size w w' := by
 have h1 : (kind != kind) = false := by simp
 have h2 : (pot != pot) = false := by simp
 have h3 : (skip != skip) = false := by simp
 have HE : Hid (eqF C D K C' D' K' = true) := he;clear he
 go_enter Tryz.func79, Tryz.ntmps79
 go_wp2_with fail
 refine (eqF_any C D C' D' ((hC.alloc _).alloc _) ((hD.alloc _).alloc _) ((hC'.alloc _).alloc _) ((hD'.alloc _).alloc _) hn hm hn' hm').mono ?_;rintro e w1 ⟨rfl, b1⟩;rw [HE.out]
 go_wp2
 go_ret
 exact ⟨rfl, ((bal).alloc (by simp) _).trans (b1.mono (by simp; omega))⟩
def stepV (l : LV) : Value :=
 if l.kind = 1 then .iface 156 (.agg #[.int .i64 l.skip, .slice l.f.a l.f.n l.f.cap, .slice l.f.c l.f.m l.f.cap', .int .i64 l.f.K])
 else if l.kind = 2 then .iface 158 (.agg #[.int .i64 l.pot, .slice l.f.a l.f.n l.f.cap, .slice l.f.c l.f.m l.f.cap', .int .i64 l.f.K])
 else if l.kind = 3 then .iface 160 (.agg #[.slice l.f.a l.f.n l.f.cap, .slice l.f.c l.f.m l.f.cap', .int .i64 l.f.K])
 else if l.kind = 4 then .iface 162 (.agg #[])
 else .nilIface
theorem sline_any (C D : List Int) {w : World} (hC : Ints w a n C) (hD : Ints w c m D) (hn : n <= 1048576) (hm : m <= 1048576) :
  Calls Tryz.prog 81 #[lineV kind pot skip a n cap c m cap' K] w fun e w' => e = .returned (.bool (lineB kind pot skip n m C D K)) /\ Below w.heap.size w w' := by
 have n0 := BL.new w [.int .i64 kind, .int .i64 pot, .int .i64 skip, .slice a n cap, .slice c m cap', .int .i64 K] 95
 by_cases hk1 : kind = 1
 ·subst hk1
  by_cases hp : pot = 0
  ·subst hp
   cases hs : inB skip 1 6
   ·go_enter Tryz.func81, Tryz.ntmps81
    go_wp2_with fail
    refine (in_any).mono ?_;rintro e w1 ⟨rfl, rfl⟩;rw [hs]
    go_wp2
    go_ret
    exact ⟨ret_bool (by simp [lineB, hs]), n0.b⟩
   go_enter Tryz.func81, Tryz.ntmps81
   go_wp2_with fail
   refine (in_any).mono ?_;rintro e w1 ⟨rfl, rfl⟩;rw [hs]
   go_wp2_with fail
   refine (sSmall_any C D (hC.below n0.b) (hD.below n0.b) hn hm).mono ?_;rintro e w1 ⟨rfl, b1⟩
   go_wp2
   go_ret
   exact ⟨ret_bool (by simp [lineB, hs]), (n0.below b1).b⟩
  have hp' : (pot == 0) = false := by simp [hp]
  go_enter Tryz.func81, Tryz.ntmps81
  go_wp2
  go_ret
  exact ⟨ret_bool (by simp [lineB, hp]), n0.b⟩
 by_cases hk2 : kind = 2
 ·subst hk2
  cases hp : inB pot 0 2
  ·go_enter Tryz.func81, Tryz.ntmps81
   go_wp2_with fail
   refine (in_any).mono ?_;rintro e w1 ⟨rfl, rfl⟩;rw [hp]
   go_wp2
   go_ret
   exact ⟨ret_bool (by simp [lineB, hp]), n0.b⟩
  by_cases hs : skip = 0
  ·subst hs
   go_enter Tryz.func81, Tryz.ntmps81
   go_wp2_with fail
   refine (in_any).mono ?_;rintro e w1 ⟨rfl, rfl⟩;rw [hp]
   go_wp2_with fail
   refine (sSmall_any C D (hC.below n0.b) (hD.below n0.b) hn hm).mono ?_;rintro e w1 ⟨rfl, b1⟩
   go_wp2
   go_ret
   exact ⟨ret_bool (by simp [lineB, hp]), (n0.below b1).b⟩
  have hs' : (skip == 0) = false := by simp [hs]
  go_enter Tryz.func81, Tryz.ntmps81
  go_wp2_with fail
  refine (in_any).mono ?_;rintro e w1 ⟨rfl, rfl⟩;rw [hp]
  go_wp2
  go_ret
  exact ⟨ret_bool (by simp [lineB, hs]), n0.b⟩
 by_cases hk3 : kind = 3
 ·subst hk3
  by_cases hp : pot = 0
  ·subst hp
   by_cases hs : skip = 0
   ·subst hs
    go_enter Tryz.func81, Tryz.ntmps81
    go_wp2_with fail
    refine (sSmall_any C D (hC.below n0.b) (hD.below n0.b) hn hm).mono ?_;rintro e w1 ⟨rfl, b1⟩
    go_wp2
    go_ret
    exact ⟨ret_bool (by simp [lineB, ]), (n0.below b1).b⟩
   have hs' : (skip == 0) = false := by simp [hs]
   go_enter Tryz.func81, Tryz.ntmps81
   go_wp2
   go_ret
   exact ⟨ret_bool (by simp [lineB, hs]), n0.b⟩
  have hp' : (pot == 0) = false := by simp [hp]
  go_enter Tryz.func81, Tryz.ntmps81
  go_wp2
  go_ret
  exact ⟨ret_bool (by simp [lineB, hp]), n0.b⟩
 have hk1' : (kind == 1) = false := by simp [hk1]
 have hk2' : (kind == 2) = false := by simp [hk2]
 have hk3' : (kind == 3) = false := by simp [hk3]
 by_cases hk4 : kind = 4
 ·subst hk4
  by_cases hp : pot = 0
  ·subst hp
   by_cases hs : skip = 0
   ·subst hs
    by_cases hl : (n : Int) + m = 0
    ·have hl' : ((n : Int) + m == 0) = true := by simp [hl]
     go_enter Tryz.func81, Tryz.ntmps81
     go_wp2
     go_ret
     exact ⟨ret_bool (by simp only [lineB, hl', Int.reduceEq, if_false, beq_self_eq_true, Bool.true_and]), n0.b⟩
    have hl' : ((n : Int) + m == 0) = false := by simpa using hl
    go_enter Tryz.func81, Tryz.ntmps81
    go_wp2
    go_ret
    exact ⟨ret_bool (by simp only [lineB, hl', Int.reduceEq, if_false, beq_self_eq_true, Bool.true_and, Bool.false_and]), n0.b⟩
   have hs' : (skip == 0) = false := by simp [hs]
   go_enter Tryz.func81, Tryz.ntmps81
   go_wp2
   go_ret
   exact ⟨ret_bool (by simp [lineB, hs]), n0.b⟩
  have hp' : (pot == 0) = false := by simp [hp]
  go_enter Tryz.func81, Tryz.ntmps81
  go_wp2
  go_ret
  exact ⟨ret_bool (by simp [lineB, hp]), n0.b⟩
 have hk4' : (kind == 4) = false := by simp [hk4]
 go_enter Tryz.func81, Tryz.ntmps81
 go_wp2
 go_ret
 exact ⟨ret_bool (by simp [lineB, hk1, hk2, hk3, hk4]), n0.b⟩
theorem iSmall_any (C D : List Int) {w : World} (hC : Ints w a n C) (hD : Ints w c m D) (hn : n <= 1048576) (hm : m <= 1048576) :
  Calls Tryz.prog 117 #[formV a n cap c m cap' K] w fun e w' => e = .returned (.bool (smallB n m C D K)) /\ Below w.heap.size w w' := by
 have n0 := BL.new w [.slice a n cap, .slice c m cap', .int .i64 K] 81;obtain ⟨fb, hfb⟩ : ∃ fb, fb = formB n m C D K := ⟨_, rfl⟩
 have HF : Hid (fb = formB n m C D K) := hfb;clear hfb
 go_enter Tryz.func117, Tryz.ntmps117
 go_wp2_with fail
 refine (iok_any C D (hC.alloc _) (hD.alloc _) hn hm).mono ?_;rintro e w1 ⟨rfl, b1⟩;have n1 := n0.below b1;rw [<- HF.out];clear n0 b1;have c0 := n1.p.cell 0;have c1 := n1.p.cell 1;have c2 := n1.p.cell 2;simp only [List.getElem?_cons_zero, List.getElem?_cons_succ] at c0 c1 c2
 cases fb
 ·have hs : smallB n m C D K = false := by
   cases hh : smallB n m C D K
   ·rfl
   have := small_ok hh; rw [<- HF.out] at this; cases this
  go_wp2
  go_ret
  exact ⟨ret_bool hs.symm, n1.b⟩
 have HS : Hid _ := small_eq HF.out.symm
 cases h3 : allB 2 C
 ·go_wp2_with fail
  refine (within_any _ _ _ C (hC.below n1.b) hn).mono ?_;rintro e w2 ⟨rfl, rfl⟩;rw [h3]
  go_wp2
  go_ret
  exact ⟨ret_bool (by rw [HS.out, h3]; rfl), n1.b⟩
 cases h4 : allB 2 D
 ·go_wp2_with fail
  refine (within_any _ _ _ C (hC.below n1.b) hn).mono ?_;rintro e w2 ⟨rfl, rfl⟩;rw [h3]
  go_wp2_with fail
  refine (within_any _ _ _ D (hD.below n1.b) hm).mono ?_;rintro e w2 ⟨rfl, rfl⟩;rw [h4]
  go_wp2
  go_ret
  exact ⟨ret_bool (by rw [HS.out, h3, h4]; rfl), n1.b⟩
 go_wp2_with fail
 refine (within_any _ _ _ C (hC.below n1.b) hn).mono ?_;rintro e w2 ⟨rfl, rfl⟩;rw [h3]
 go_wp2_with fail
 refine (within_any _ _ _ D (hD.below n1.b) hm).mono ?_;rintro e w2 ⟨rfl, rfl⟩;rw [h4]
 go_wp2_with fail
 refine (within_any (some ⟨_, 0, none⟩) 1 1 [K] ?_ (by omega)).mono ?_
 ·refine ⟨rfl, fun i hi => ⟨_, 0, rfl, ?_⟩⟩;obtain rfl : i = 0 := by omega
  exact (Cel.new _ [.int .i64 K] _).cell 0
 rintro e w2 ⟨rfl, rfl⟩
 go_wp2
 go_ret
 exact ⟨ret_bool (by rw [allB_one, HS.out, h3, h4]; rfl), (n1.alloc _).b⟩
theorem iNoth_any :
  Calls Tryz.prog 118 #[formV a n cap c m cap' K] w fun e w' => e = .returned (.bool (((n : Int) + m == 0) && (K == 0))) /\ Below w.heap.size w w' := by
 have n0 := BL.new w [.slice a n cap, .slice c m cap', .int .i64 K] 81
 by_cases h1 : (n : Int) = 0
 ·obtain rfl : n = 0 := by omega
  by_cases h2 : (m : Int) = 0
  ·obtain rfl : m = 0 := by omega
   go_enter Tryz.func118, Tryz.ntmps118
   go_wp2
   go_ret
   exact ⟨ret_bool (by simp), n0.b⟩
  have h2' : ((m : Int) == 0) = false := by simpa using h2
  go_enter Tryz.func118, Tryz.ntmps118
  go_wp2
  go_ret
  exact ⟨ret_bool (by simp; omega), n0.b⟩
 have h1' : ((n : Int) == 0) = false := by simpa using h1
 go_enter Tryz.func118, Tryz.ntmps118
 go_wp2
 go_ret
 exact ⟨ret_bool (by simp; omega), n0.b⟩
theorem ret_step {u v : Value} {a b : Bool} (h : u = v) (h' : a = b) : Ending.returned (.tuple #[u, .bool a]) = .returned (.tuple #[v, .bool b]) := by rw [h, h']
theorem istep_any (C D : List Int) {w : World} (hC : Ints w a n C) (hD : Ints w c m D) (hn : n <= 1048576) (hm : m <= 1048576) :
  Calls Tryz.prog 111 #[lineV kind pot skip a n cap c m cap' K] w fun e w' => e = .returned (.tuple #[stepV ⟨kind, pot, skip, ⟨a, n, cap, c, m, cap', K, C, D⟩⟩, .bool (lineB kind pot skip n m C D K)]) /\ Below w.heap.size w w' := by
 have n0 := BL.new w [.int .i64 kind, .int .i64 pot, .int .i64 skip, .slice a n cap, .slice c m cap', .int .i64 K] 95
 by_cases hk1 : kind = 1
 ·subst hk1
  by_cases hp : pot = 0
  ·subst hp
   by_cases hs1 : 1 <= skip
   ·by_cases hs2 : skip <= 6
    ·have hs : inB skip 1 6 = true := inB_iff.2 ⟨hs1, hs2⟩
     go_enter Tryz.func111, Tryz.ntmps111
     go_wp2_with fail
     refine (iSmall_any C D (hC.below n0.b) (hD.below n0.b) hn hm).mono ?_;rintro e w1 ⟨rfl, b1⟩;obtain ⟨c0, c1, c2, c3, c4, c5⟩ := (n0.below b1).p.six
     go_wp2
     go_ret2
     exact ⟨ret_step (by simp [stepV]) (by simp [lineB, hs]), (n0.below b1).b⟩
    have hs : inB skip 1 6 = false := inB_not.2 (by omega)
    go_enter Tryz.func111, Tryz.ntmps111
    go_wp2
    go_ret2
    exact ⟨ret_step (by simp [stepV]) (by simp [lineB, hs]), n0.b⟩
   have hs : inB skip 1 6 = false := inB_not.2 (by omega)
   go_enter Tryz.func111, Tryz.ntmps111
   go_wp2
   go_ret2
   exact ⟨ret_step (by simp [stepV]) (by simp [lineB, hs]), n0.b⟩
  have hp' : (pot == 0) = false := by simp [hp]
  go_enter Tryz.func111, Tryz.ntmps111
  go_wp2
  go_ret2
  exact ⟨ret_step (by simp [stepV]) (by simp [lineB, hp]), n0.b⟩
 by_cases hk2 : kind = 2
 ·subst hk2
  by_cases hp1 : 0 <= pot
  ·by_cases hp2 : pot < 3
   ·have hp : inB pot 0 2 = true := inB_iff.2 ⟨hp1, by omega⟩
    by_cases hs : skip = 0
    ·subst hs
     go_enter Tryz.func111, Tryz.ntmps111
     go_wp2_with fail
     refine (place_any).mono ?_;rintro e w1 ⟨rfl, rfl⟩;rw [decide_eq_true (show 0 <= pot /\ pot < 3 from ⟨hp1, hp2⟩)]
     go_wp2_with fail
     refine (iSmall_any C D (hC.below n0.b) (hD.below n0.b) hn hm).mono ?_;rintro e w1 ⟨rfl, b1⟩;obtain ⟨c0, c1, c2, c3, c4, c5⟩ := (n0.below b1).p.six
     go_wp2
     go_ret2
     exact ⟨ret_step (by simp [stepV]) (by simp [lineB, hp]), (n0.below b1).b⟩
    have hs' : (skip == 0) = false := by simp [hs]
    go_enter Tryz.func111, Tryz.ntmps111
    go_wp2_with fail
    refine (place_any).mono ?_;rintro e w1 ⟨rfl, rfl⟩;rw [decide_eq_true (show 0 <= pot /\ pot < 3 from ⟨hp1, hp2⟩)]
    go_wp2
    go_ret2
    exact ⟨ret_step (by simp [stepV]) (by simp [lineB, hs]), n0.b⟩
   have hp : inB pot 0 2 = false := inB_not.2 (by omega)
   go_enter Tryz.func111, Tryz.ntmps111
   go_wp2_with fail
   refine (place_any).mono ?_;rintro e w1 ⟨rfl, rfl⟩;rw [decide_eq_false (show ¬ (0 <= pot /\ pot < 3) by omega)]
   go_wp2
   go_ret2
   exact ⟨ret_step (by simp [stepV]) (by simp [lineB, hp]), n0.b⟩
  have hp : inB pot 0 2 = false := inB_not.2 (by omega)
  go_enter Tryz.func111, Tryz.ntmps111
  go_wp2_with fail
  refine (place_any).mono ?_;rintro e w1 ⟨rfl, rfl⟩;rw [decide_eq_false (show ¬ (0 <= pot /\ pot < 3) by omega)]
  go_wp2
  go_ret2
  exact ⟨ret_step (by simp [stepV]) (by simp [lineB, hp]), n0.b⟩
 by_cases hk3 : kind = 3
 ·subst hk3
  by_cases hp : pot = 0
  ·subst hp
   by_cases hs : skip = 0
   ·subst hs
    go_enter Tryz.func111, Tryz.ntmps111
    go_wp2_with fail
    refine (iSmall_any C D (hC.below n0.b) (hD.below n0.b) hn hm).mono ?_;rintro e w1 ⟨rfl, b1⟩;obtain ⟨c0, c1, c2, c3, c4, c5⟩ := (n0.below b1).p.six
    go_wp2
    go_ret2
    exact ⟨ret_step (by simp [stepV]) (by simp [lineB, ]), (n0.below b1).b⟩
   have hs' : (skip == 0) = false := by simp [hs]
   go_enter Tryz.func111, Tryz.ntmps111
   go_wp2
   go_ret2
   exact ⟨ret_step (by simp [stepV]) (by simp [lineB, hs]), n0.b⟩
  have hp' : (pot == 0) = false := by simp [hp]
  go_enter Tryz.func111, Tryz.ntmps111
  go_wp2
  go_ret2
  exact ⟨ret_step (by simp [stepV]) (by simp [lineB, hp]), n0.b⟩
 have hk1' : (kind == 1) = false := by simp [hk1]
 have hk2' : (kind == 2) = false := by simp [hk2]
 have hk3' : (kind == 3) = false := by simp [hk3]
 by_cases hk4 : kind = 4
 ·subst hk4
  by_cases hp : pot = 0
  ·subst hp
   by_cases hs : skip = 0
   ·subst hs
    go_enter Tryz.func111, Tryz.ntmps111
    go_wp2_with fail
    refine (iNoth_any).mono ?_;rintro e w1 ⟨rfl, b1⟩;obtain ⟨c0, c1, c2, c3, c4, c5⟩ := (n0.below b1).p.six
    go_wp2
    go_ret2
    exact ⟨ret_step (by simp [stepV]) (by simp only [lineB, Int.reduceEq, if_false, beq_self_eq_true, Bool.true_and]), (n0.below b1).b⟩
   have hs' : (skip == 0) = false := by simp [hs]
   go_enter Tryz.func111, Tryz.ntmps111
   go_wp2
   go_ret2
   exact ⟨ret_step (by simp [stepV]) (by simp [lineB, hs]), n0.b⟩
  have hp' : (pot == 0) = false := by simp [hp]
  go_enter Tryz.func111, Tryz.ntmps111
  go_wp2
  go_ret2
  exact ⟨ret_step (by simp [stepV]) (by simp [lineB, hp]), n0.b⟩
 have hk4' : (kind == 4) = false := by simp [hk4]
 go_enter Tryz.func111, Tryz.ntmps111
 go_wp2
 go_ret2
 exact ⟨ret_step (by simp [stepV, hk1, hk2, hk3, hk4]) (by simp [lineB, hk1, hk2, hk3, hk4]), n0.b⟩
def LinesG (w : World) (ad : Option Addr) (ls : List LV) : Prop :=
 ∀ i, i < ls.length -> ∃ b off, ad = some ⟨b, off, none⟩ /\ (∀ r, r < 6 -> w.cell? ⟨b, off + i * 6 + r, none⟩ = (ls[i]?.getD noLV).cs[r]?) /\ (ls[i]?.getD noLV).f.At w
theorem cells_below {b : Nat} {l : LV} (h : ∀ r, r < 6 -> w.cell? ⟨b, o + r, none⟩ = l.cs[r]?) (hb : Below w.heap.size w w') : ∀ r, r < 6 -> w'.cell? ⟨b, o + r, none⟩ = l.cs[r]? := fun r hr => by
 have hl : b < w.heap.size := by
  have := h 0 (by omega)
  exact block_lt (v := .int .i64 l.kind) (by rw [this]; rfl)
 rw [hb.cell (p := ⟨b, o + r, none⟩) hl]; exact h r hr
theorem LinesG.below {ls : List LV} (h : LinesG w ad ls) (hb : Below w.heap.size w w') : LinesG w' ad ls := fun i hi => by
 obtain ⟨b, off, e, hc, ha⟩ := h i hi
 exact ⟨b, off, e, cells_below hc hb, ha.below hb⟩
theorem LinesM.below {ls : List LV} (h : LinesM w ad ls) (hb : Below w.heap.size w w') : LinesM w' ad ls := fun i hi => by
 obtain ⟨b, off, e, hc, h1, h2, h3⟩ := h i hi
 exact ⟨b, off, e, cells_below hc hb, h1.below hb, h2.below hb, h3⟩
theorem LinesM.g {ls : List LV} (h : LinesM w ad ls) (hs : ∀ i, i < ls.length -> (ls[i]?.getD noLV).f.n <= 1048576 /\ (ls[i]?.getD noLV).f.m <= 1048576) : LinesG w ad ls := fun i hi => by
 obtain ⟨b, off, e, hc, h1, h2, h3⟩ := h i hi
 exact ⟨b, off, e, hc, ⟨h1, h2, (hs i hi).1, (hs i hi).2⟩⟩
theorem six_of {b : Nat} {l : LV} (h : ∀ r, r < 6 -> w.cell? ⟨b, o + r, none⟩ = l.cs[r]?) :
  w.cell? ⟨b, o, none⟩ = some (.int .i64 l.kind) /\ w.cell? ⟨b, o + 1, none⟩ = some (.int .i64 l.pot) /\ w.cell? ⟨b, o + 2, none⟩ = some (.int .i64 l.skip) /\ w.cell? ⟨b, o + 3, none⟩ = some (.slice l.f.a l.f.n l.f.cap) /\ w.cell? ⟨b, o + 4, none⟩ = some (.slice l.f.c l.f.m l.f.cap') /\ w.cell? ⟨b, o + 5, none⟩ = some (.int .i64 l.f.K) :=
 ⟨h 0 (by omega), h 1 (by omega), h 2 (by omega), h 3 (by omega), h 4 (by omega), h 5 (by omega)⟩
theorem open_lineC {H : Type} {enc : TypeId × Value -> H} {fuel : Nat} {cs : List Value} {x : DataW H × List MemPlace}
  (hf : DataW.trod enc Tryz.prog W 0 (fun _ => true) true fuel 78 cs = some x) :
  ∃ l : LV, cs = l.cs /\ Ints W l.f.a l.f.n l.f.C /\ Ints W l.f.c l.f.m l.f.D /\ l.f.n <= maxLen /\ l.f.m <= maxLen := by
 obtain ⟨y0, y1, y2, y3, n, _, hl, h0, h1, h2, h3⟩ := trod_struct4 Tryz.underlying78 hf;have hl' : cs.length = 6 := hl.trans (by kernel_rfl)
 match cs, hl' with
 | [c0, c1, c2, c3, c4, c5], _ =>
  have k3 : Tryz.prog.cellsOf 3 = 1 := by kernel_rfl
  have k57 : Tryz.prog.cellsOf 76 = 3 := by kernel_rfl
  simp only [k3, k57, List.drop_zero, List.drop_succ_cons, List.take_succ_cons, List.take_zero] at h0 h1 h2 h3;obtain ⟨a0, rfl, _⟩ := open_num h0;obtain ⟨a1, rfl, _⟩ := open_num h1;obtain ⟨a2, rfl, _⟩ := open_num h2;obtain ⟨f, e, hf'⟩ := open_formC h3;simp only [FV.cs, List.cons.injEq, and_true] at e;obtain ⟨rfl, rfl, rfl⟩ := e
  exact ⟨⟨a0, a1, a2, f⟩, rfl, hf'⟩
theorem open_linesC {H : Type} {enc : TypeId × Value -> H} {fuel : Nat} {v : Value} {y : DataW H × List MemPlace}
  (hf : DataW.trod enc Tryz.prog W 0 (fun _ => true) true fuel 47 [v] = some y) :
  ∃ ad N cap ls, v = .slice ad N cap /\ ls.length = N /\ LinesM W ad ls /\ N <= maxLen := by
 obtain ⟨ad, N, cap, fs, hv, hl, hN, hall⟩ := open_sliceC noLV LV.cs (fun l => Ints W l.f.a l.f.n l.f.C /\ Ints W l.f.c l.f.m l.f.D /\ l.f.n <= maxLen /\ l.f.m <= maxLen) (c := 6) (by omega) Tryz.underlying47 (by kernel_rfl) (fun _ => rfl) (fun fuel cs x hx => open_lineC hx) hf
 exact ⟨ad, N, cap, fs, hv, hl, hall, hN⟩
theorem szLS_any (ad : Option Addr) (N cap : Nat) (ls : List LV) (l : Int) (w : World) (hN : ls.length = N) (hF : LinesM w ad ls) (hN1 : N <= maxLen) (h0 : 0 <= l) (hl : l <= 1048576) :
  Calls Tryz.prog 21 #[.slice ad N cap, .int .i64 l] w fun e w' => ∃ r, e = .returned (.int .i64 r) /\ -1 <= r /\ r <= 1048576 /\ (0 <= r -> N <= 1048576 /\ ∀ i, i < ls.length -> (ls[i]?.getD noLV).f.n <= 1048576 /\ (ls[i]?.getD noLV).f.m <= 1048576) /\ Below w.heap.size w w' := by
 have HN : Hid (ls.length = N) := hN;clear hN;unfold maxLen at hN1
 by_cases h : l < N
 ·go_enter Tryz.func21, Tryz.ntmps21
  go_wp2
  go_ret
  exact ⟨-1, rfl, by omega, by omega, fun h => by omega, Below.refl _ _⟩
 have hN2 : N <= 1048576 := by omega
 have h' : (N : Int) <= l := by omega
 go_enter Tryz.func21, Tryz.ntmps21
 go_wp2_with fail
 go_loopw [1, 5] (fun lv i wr => ∃ k : Nat, k <= N /\ i = .int .i64 k /\ ∃ x : Int, lv = .int .i64 x /\ 0 <= x /\ x <= 1048576 /\ Below w.heap.size w wr /\ ∀ i, i < k -> (ls[i]?.getD noLV).f.n <= 1048576 /\ (ls[i]?.getD noLV).f.m <= 1048576) (fun _ i _ => N - (intOf i).toNat)
 case atStart => exact ⟨0, qJ _, rfl, _, rfl, by omega, by omega, Below.refl _ _, fun i hi => by omega⟩
 case round =>
  obtain ⟨k, hk, rfl, x, rfl, hx0, hx1, hb, hall⟩ := hrel;have HA : Hid _ := hall;clear hall
  by_cases hlt : k < N
  ·obtain ⟨b, off, rfl, hc, h1, h2, h3, h4⟩ := (hF.below hb) k (by rw [HN.out]; exact hlt);generalize HG : ls[k]?.getD noLV = g at *;have HG' : Hid (ls[k]?.getD noLV = g) := HG;clear HG hF;obtain ⟨e0, e1, e2, e3, e4, e5⟩ := six_of hc;obtain ⟨gk, gp, gs, ⟨ga, gn, gcap, gc, gm, gcap', gK, gC, gD⟩⟩ := g;simp only at e0 e1 e2 e3 e4 e5 h3 h4;clear hc h1 h2;have g2 := leftOf_ge (leftOf x gn) gm
   by_cases hz : leftOf (leftOf x gn) gm < 0
   ·go_wp2_with fail
    refine (szL_any h3 h4 hx0 hx1).mono ?_;rintro e w1 ⟨rfl, b1⟩
    go_wp2
    go_ret
    exact ⟨-1, rfl, by omega, by omega, fun h => by omega, btr hb b1⟩
   have l2 := leftOf_le (l := leftOf x gn) (n := gm) (by omega);have l1 := leftOf_le (l := x) (n := gn) (by omega);have hz0 : 0 <= leftOf (leftOf x gn) gm := by omega
   have hz1 : leftOf (leftOf x gn) gm <= 1048576 := by omega
   have q1 : gn <= 1048576 := by omega
   have q2 : gm <= 1048576 := by omega
   have HA2 : Hid (∀ i, i < k + 1 -> (ls[i]?.getD noLV).f.n <= 1048576 /\ (ls[i]?.getD noLV).f.m <= 1048576) := fun i hi => by
    by_cases hik : i < k
    ·exact HA.out i hik
    obtain rfl : i = k := by omega
    rw [HG'.out]; exact ⟨q1, q2⟩
   clear l1 l2 hz
   go_wp2_with fail
   refine (szL_any h3 h4 hx0 hx1).mono ?_;rintro e w1 ⟨rfl, b1⟩
   go_wp2
   go_roundw
   case rel => exact ⟨k + 1, by omega, by go_num, _, rfl, hz0, hz1, btr hb b1, HA2.out⟩
   case measure => simp [intOf]; omega
  obtain rfl : k = N := by omega
  go_wp2
  go_ret
  exact ⟨x, rfl, by omega, by omega, fun _ => ⟨hN2, fun i hi => HA.out i (by rw [<- HN.out]; exact hi)⟩, hb⟩
def six (vs : List Value) (o : Nat) (x0 x1 x2 x3 x4 x5 : Value) : List Value := (((((vs.set o x0).set (o + 1) x1).set (o + 2) x2).set (o + 3) x3).set (o + 4) x4).set (o + 5) x5
theorem six_len (vs : List Value) (o : Nat) (x0 x1 x2 x3 x4 x5 : Value) : (six vs o x0 x1 x2 x3 x4 x5).length = vs.length := by simp [six]
theorem six_ne {j : Nat} (h : j < o \/ o + 6 <= j) : (six vs o x0 x1 x2 x3 x4 x5)[j]? = vs[j]? := by
 unfold six;rw [qB (by omega), qB (by omega), qB (by omega), qB (by omega), qB (by omega), qB (by omega)]
theorem six_at (h : o + 6 <= vs.length) (r : Nat) (hr : r < 6) : (six vs o x0 x1 x2 x3 x4 x5)[o + r]? = [x0, x1, x2, x3, x4, x5][r]? := by
 have hcase : r = 0 \/ r = 1 \/ r = 2 \/ r = 3 \/ r = 4 \/ r = 5 := by omega
 unfold six
 rcases hcase with rfl | rfl | rfl | rfl | rfl | rfl
 ·simp only [Nat.add_zero];rw [qB (by omega), qB (by omega), qB (by omega), qB (by omega), qB (by omega), qF (by omega)]; rfl
 ·rw [qB (by omega), qB (by omega), qB (by omega), qB (by omega), qF (by simp; omega)]; rfl
 ·rw [qB (by omega), qB (by omega), qB (by omega), qF (by simp; omega)]; rfl
 ·rw [qB (by omega), qB (by omega), qF (by simp; omega)]; rfl
 ·rw [qB (by omega), qF (by simp; omega)]; rfl
 rw [qF (by simp; omega)]; rfl
structure ML (W : World) (B lo N : Nat) (gs : List LV) (p q : Nat -> Nat) : Prop where
 c : ∃ vs : List Value, W.heap[B]? = some (.cells vs.toArray 95 (0, 0)) /\ vs.length = N * 6 /\ ∀ i, i < gs.length -> ∀ r, r < 6 -> vs[i * 6 + r]? = (gs[i]?.getD noLV).cs[r]?
 l : ∀ i, i < gs.length -> (gs[i]?.getD noLV).f.a = some ⟨p i, 0, none⟩ /\ (gs[i]?.getD noLV).f.c = some ⟨q i, 0, none⟩ /\ Blk W (p i) (gs[i]?.getD noLV).f.C /\ Blk W (q i) (gs[i]?.getD noLV).f.D /\ (gs[i]?.getD noLV).f.C.length = (gs[i]?.getD noLV).f.n /\ (gs[i]?.getD noLV).f.D.length = (gs[i]?.getD noLV).f.m /\ (gs[i]?.getD noLV).f.n <= 1048576 /\ (gs[i]?.getD noLV).f.m <= 1048576 /\ lo <= p i /\ p i < q i /\ q i < W.heap.size /\ ∀ j, j < i -> q j < p i
 b : B < lo
 s : lo <= W.heap.size
theorem ML.lt {gs : List LV} (h : ML W B lo N gs p q) : B < W.heap.size := by
 obtain ⟨vs, h1, _⟩ := h.c
 exact lt_of_block h1
theorem ML.below {W' : World} {gs : List LV} (h : ML W B lo N gs p q) (b : Below W.heap.size W W') : ML W' B lo N gs p q := by
 obtain ⟨vs, h1, h2, h3⟩ := h.c;refine ⟨⟨vs, by rw [b.block B (lt_of_block h1)]; exact h1, h2, h3⟩, fun i hi => ?_, h.b, Nat.le_trans h.s b.size⟩;obtain ⟨a2, a3, a4, a5, a6, a7, a8, a9, a10, a11, a12, a13⟩ := h.l i hi;have := b.size
 exact ⟨a2, a3, a4.below b, a5.below b, a6, a7, a8, a9, a10, a11, by omega, a13⟩
theorem ML.g {gs : List LV} (h : ML W B lo N gs p q) : LinesG W (some ⟨B, 0, none⟩) gs := by
 intro i hi;obtain ⟨vs, h1, h2, h3⟩ := h.c;obtain ⟨a2, a3, a4, a5, a6, a7, a8, a9, _⟩ := h.l i hi;refine ⟨B, 0, rfl, fun r hr => ?_, ⟨?_, ?_, a8, a9⟩⟩
 ·rw [Nat.zero_add, <- h3 i hi r hr];simp [World.cell?, h1]
 ·rw [a2, <- a6]; exact a4.ints
 rw [a3, <- a7]; exact a5.ints
theorem ML.step {W1 : World} {k P Q : Nat} {gs : List LV} (h : ML W B lo N gs p q) (hk : gs.length = k) (hkN : k < N) (b : Below W.heap.size W W1) (hP : W.heap.size <= P) (hPQ : P < Q) (k1 : Blk W1 P C) (k2 : Blk W1 Q D) (hC : C.length = n) (hD : D.length = m) (hn : n <= 1048576) (hm : m <= 1048576) :
  ML ((((((W1.setCell ⟨B, k * 6, none⟩ (.int .i64 kind)).setCell ⟨B, k * 6 + 1, none⟩ (.int .i64 pot)).setCell ⟨B, k * 6 + 2, none⟩ (.int .i64 skip)).setCell ⟨B, k * 6 + 3, none⟩ (.slice (some ⟨P, 0, none⟩) n n)).setCell ⟨B, k * 6 + 4, none⟩ (.slice (some ⟨Q, 0, none⟩) m m)).setCell ⟨B, k * 6 + 5, none⟩ (.int .i64 K)) B lo N (gs ++ [⟨kind, pot, skip, ⟨some ⟨P, 0, none⟩, n, n, some ⟨Q, 0, none⟩, m, m, K, C, D⟩⟩]) (fun i => if i = k then P else p i) (fun i => if i = k then Q else q i) := by
 have hB := h.lt;have hb := h.b;have hs := h.s;have h' := h.below b;obtain ⟨vs, v1, v2, v3⟩ := h'.c;have kP : P ≠ B := by omega
 have kQ : Q ≠ B := by omega
 have lP := k1.lt;have lQ := k2.lt;refine ⟨⟨six vs (k * 6) (.int .i64 kind) (.int .i64 pot) (.int .i64 skip) (.slice (some ⟨P, 0, none⟩) n n) (.slice (some ⟨Q, 0, none⟩) m m) (.int .i64 K), ?_, by rw [six_len]; exact v2, fun i hi r hr => ?_⟩, fun i hi => ?_, h.b, ?_⟩
 ·have c0 : Cel W1 B vs 95 := v1
  exact ((((((c0.set _ _).set _ _).set _ _).set _ _).set _ _).set _ _)
 ·rw [qC, hk] at hi;simp only [qG, qH] at hi
  by_cases e : i = k
  ·subst e;rw [six_at (by rw [v2]; omega) r hr, qD (by omega), hk];simp [LV.cs]
  rw [six_ne (by omega), qE (by omega)]
  exact v3 i (by omega) r hr
 ·rw [qC, hk] at hi;simp only [qG, qH] at hi;have hsz : ((((((W1.setCell ⟨B, k * 6, none⟩ (.int .i64 kind)).setCell ⟨B, k * 6 + 1, none⟩ (.int .i64 pot)).setCell ⟨B, k * 6 + 2, none⟩ (.int .i64 skip)).setCell ⟨B, k * 6 + 3, none⟩ (.slice (some ⟨P, 0, none⟩) n n)).setCell ⟨B, k * 6 + 4, none⟩ (.slice (some ⟨Q, 0, none⟩) m m)).setCell ⟨B, k * 6 + 5, none⟩ (.int .i64 K)).heap.size = W1.heap.size := by rw [size_setCell, size_setCell, size_setCell, size_setCell, size_setCell, size_setCell]
  rw [hsz]
  by_cases e : i = k
  ·subst e;rw [qD (by omega), hk];simp only [Nat.sub_self, List.getElem?_cons_zero, Option.getD_some, if_true];refine ⟨trivial, trivial, ?_, ?_, hC, hD, hn, hm, by omega, hPQ, lQ, fun j hj => ?_⟩
   ·exact (((((k1.setOther kP _ _).setOther kP _ _).setOther kP _ _).setOther kP _ _).setOther kP _ _).setOther kP _ _
   ·exact (((((k2.setOther kQ _ _).setOther kQ _ _).setOther kQ _ _).setOther kQ _ _).setOther kQ _ _).setOther kQ _ _
   rw [if_neg (by omega)];obtain ⟨a2, a3, a4, a5, a6, a7, a8, a9, a10, a11, a12, a13⟩ := h.l j (by omega)
   omega
  rw [qE (by omega), if_neg e, if_neg e];obtain ⟨a2, a3, a4, a5, a6, a7, a8, a9, a10, a11, a12, a13⟩ := h'.l i (by omega);have e1 : p i ≠ B := by omega
  have e2 : q i ≠ B := by omega
  refine ⟨a2, a3, ?_, ?_, a6, a7, a8, a9, a10, a11, a12, fun j hj => ?_⟩
  ·exact (((((a4.setOther e1 _ _).setOther e1 _ _).setOther e1 _ _).setOther e1 _ _).setOther e1 _ _).setOther e1 _ _
  ·exact (((((a5.setOther e2 _ _).setOther e2 _ _).setOther e2 _ _).setOther e2 _ _).setOther e2 _ _).setOther e2 _ _
  rw [if_neg (by omega)]; exact a13 j hj
 rw [size_setCell, size_setCell, size_setCell, size_setCell, size_setCell, size_setCell]; exact h'.s
def copiesL (ls gs : List LV) : Prop := ∀ i, i < gs.length -> (gs[i]?.getD noLV).kind = (ls[i]?.getD noLV).kind /\ (gs[i]?.getD noLV).pot = (ls[i]?.getD noLV).pot /\ (gs[i]?.getD noLV).skip = (ls[i]?.getD noLV).skip /\ (gs[i]?.getD noLV).f.C = (ls[i]?.getD noLV).f.C /\ (gs[i]?.getD noLV).f.D = (ls[i]?.getD noLV).f.D /\ (gs[i]?.getD noLV).f.K = (ls[i]?.getD noLV).f.K /\ (gs[i]?.getD noLV).f.n = (ls[i]?.getD noLV).f.n /\ (gs[i]?.getD noLV).f.m = (ls[i]?.getD noLV).f.m
theorem Tryz.infoLine : (Tryz.prog.info? 95).map (fun i => (i.zero, i.size, i.bytes)) = some (some (.agg #[.int .i64 0, .int .i64 0, .int .i64 0, .slice none 0 0, .slice none 0 0, .int .i64 0]), 6, 80) := by kernel_rfl
theorem toLS_any (ad : Option Addr) (N cap : Nat) (ls : List LV) (w : World) (hN : ls.length = N) (hF : LinesG w ad ls) (hN1 : N <= 1048576) :
  Calls Tryz.prog 30 #[.slice ad N cap] w fun e w' => ∃ gs p q, e = .returned (.slice (some ⟨w.heap.size, 0, none⟩) N N) /\ gs.length = N /\ copiesL ls gs /\ Below w.heap.size w w' /\ ML w' w.heap.size (w.heap.size + 1) N gs p q := by
 have HN : Hid (ls.length = N) := hN;clear hN;obtain ⟨i0, hi, hz0, hz1, hz2⟩ := info_parts Tryz.infoLine
 go_enter Tryz.func30, Tryz.ntmps30
 go_wp2_with (at_make; refine wpList_make_full _ rfl (.tmp 6) (.tmp 6) 58 rfl w.heap.size 95 i0 (.agg #[.int .i64 0, .int .i64 0, .int .i64 0, .slice none 0 0, .slice none 0 0, .int .i64 0]) 6 Tryz.underlying58 hi hz0 hz1 .i64 .i64 _ _ N rfl rfl rfl rfl (by rw [hz2]; omega) (by unfold maxLen; omega) (qI _) ?_; intro w1 hown hgrow)
 have hb1 : Below w.heap.size w w1 := (Below.refl _ _).grown hgrow (qI _) (by simp)
 have m0 : ML w1 w.heap.size (w.heap.size + 1) N [] (fun _ => 0) (fun _ => 0) := by
  rcases hown.2 with ⟨h', _⟩ | ⟨g', cap', cur, h', _, hg, _, _, hcs, htake⟩
  ·simp at h'
  simp only [Value.slice.injEq, Option.some.injEq, Addr.mk.injEq, and_true, true_and] at h';obtain ⟨rfl, rfl⟩ := h';have hl : w.heap.size < w1.heap.size := lt_of_block hg
  exact ⟨⟨cur.toList, by rw [hg], by simpa using hcs, fun i hi => by simp at hi⟩, fun i hi => by simp at hi, by omega, by omega⟩
 clear hown hgrow hi hz0 hz1 hz2
 go_loopw [4] (fun i wr => ∃ k : Nat, k <= N /\ i = .int .i64 k /\ Below w.heap.size w wr /\ ∃ gs p q, gs.length = k /\ copiesL ls gs /\ ML wr w.heap.size (w.heap.size + 1) N gs p q) (fun i _ => N - (intOf i).toNat)
 case atStart => exact ⟨0, qJ _, rfl, hb1, [], _, _, rfl, fun i hi => by simp at hi, m0⟩
 case round =>
  clear hb1 m0;obtain ⟨k, hk, rfl, hb, gs, p, q, hgs, hcp, hm⟩ := hrel;have HGS : Hid (gs.length = k) := hgs;have HCP : Hid (copiesL ls gs) := hcp;clear hgs hcp
  by_cases hlt : k < N
  ·obtain ⟨b, off, rfl, hc, hA⟩ := (hF.below hb) k (by rw [HN.out]; exact hlt);generalize HG : ls[k]?.getD noLV = g at *;have HG' : Hid (ls[k]?.getD noLV = g) := HG;clear HG hF;obtain ⟨e0, e1, e2, e3, e4, e5⟩ := six_of hc;obtain ⟨gk, gp, gz, ⟨ga, gn, gcap, gc, gm, gcap', gK, gC, gD⟩⟩ := g;obtain ⟨iC, iD, i1, i2⟩ := hA;simp only at e0 e1 e2 e3 e4 e5 iC iD i1 i2;clear hc
   go_wp2_with fail
   refine (toL_any gC gD iC iD i1 i2).mono ?_;rintro ee w2 ⟨P, Q, rfl, b2, hP, hPQ, k1, k2⟩;have ms := hm.step (kind := gk) (pot := gp) (skip := gz) (K := gK) HGS.out hlt b2 hP hPQ k1 k2 iC.1 iD.1 i1 i2;have hm2 := hm.below b2;obtain ⟨vs, v1, v2, v3⟩ := hm2.c;have c0 : Cel w2 w.heap.size vs 95 := v1;have hx : ∀ r, r < 6 -> ∃ x, w2.cell? ⟨w.heap.size, k * 6 + r, none⟩ = some x := fun r hr => ⟨_, (c0.cell (k * 6 + r)).trans (List.getElem?_eq_getElem (by rw [v2]; omega))⟩
   obtain ⟨x0, y0⟩ := hx 0 (by omega);obtain ⟨x1, y1⟩ := hx 1 (by omega);obtain ⟨x2, y2⟩ := hx 2 (by omega);obtain ⟨x3, y3⟩ := hx 3 (by omega);obtain ⟨x4, y4⟩ := hx 4 (by omega);obtain ⟨x5, y5⟩ := hx 5 (by omega);simp only [Nat.add_zero] at y0;have f0 := c0.free (k * 6);have f1 := c0.free (k * 6 + 1);have f2 := c0.free (k * 6 + 2);have f3 := c0.free (k * 6 + 3);have f4 := c0.free (k * 6 + 4);have f5 := c0.free (k * 6 + 5);have hb2 := btr hb b2;have RB := (((((hb2.setCell (p := ⟨w.heap.size, k * 6, none⟩) (qI _) (.int .i64 gk)).setCell (p := ⟨w.heap.size, k * 6 + 1, none⟩) (qI _) (.int .i64 gp)).setCell (p := ⟨w.heap.size, k * 6 + 2, none⟩) (qI _) (.int .i64 gz)).setCell (p := ⟨w.heap.size, k * 6 + 3, none⟩) (qI _) (.slice (some ⟨P, 0, none⟩) gn gn)).setCell (p := ⟨w.heap.size, k * 6 + 4, none⟩) (qI _) (.slice (some ⟨Q, 0, none⟩) gm gm)).setCell (p := ⟨w.heap.size, k * 6 + 5, none⟩) (qI _) (.int .i64 gK)
   have CP : copiesL ls (gs ++ [⟨gk, gp, gz, ⟨some ⟨P, 0, none⟩, gn, gn, some ⟨Q, 0, none⟩, gm, gm, gK, gC, gD⟩⟩]) := fun i hi => by
    rw [qC, HGS.out] at hi;simp only [qG, qH] at hi
    by_cases e : i = k
    ·subst e;rw [qD (by rw [HGS.out]; exact qI _), HGS.out, HG'.out];simp
    rw [qE (by rw [HGS.out]; omega)]
    exact HCP.out i (by rw [HGS.out]; omega)
   have HCP2 : Hid _ := CP;clear hm hm2 b2 hb hb2 iC iD e0 e1 e2 e3 e4 e5 k1 k2 c0 v1 v2 v3 hx CP
   go_wp2
   go_roundw
   case rel => exact ⟨k + 1, by omega, by go_num, RB, _, _, _, by rw [qC, HGS.out]; rfl, HCP2.out, ms⟩
   case measure => simp [intOf]; omega
  obtain rfl : k = N := by omega
  go_wp2
  go_ret
  exact ⟨gs, p, q, rfl, HGS.out, HCP.out, hb, hm⟩
def sameL (f g : LV) : Prop := f.kind = g.kind /\ f.pot = g.pot /\ f.skip = g.skip /\ eqF f.f.C f.f.D f.f.K g.f.C g.f.D g.f.K = true
theorem eqLS_same (ad ae : Option Addr) (N cap cap' : Nat) (fs gs : List LV) (w : World) (hN : fs.length = N) (hM : gs.length = N) (hF : LinesG w ad fs) (hG : LinesG w ae gs) (hN1 : N <= 1048576)
  (hsame : ∀ i, i < N -> sameL (fs[i]?.getD noLV) (gs[i]?.getD noLV)) :
  Calls Tryz.prog 42 #[.slice ad N cap, .slice ae N cap'] w fun e w' => e = .returned (.bool true) /\ Below w.heap.size w w' := by
 have HN : Hid (fs.length = N) := hN;have HM : Hid (gs.length = N) := hM;have HS : Hid _ := hsame;clear hN hM hsame
 go_enter Tryz.func42, Tryz.ntmps42
 go_wp2_with fail
 go_loopw [5] (fun i wr => ∃ k : Nat, k <= N /\ i = .int .i64 k /\ Below w.heap.size w wr) (fun i _ => N - (intOf i).toNat)
 case atStart => exact ⟨0, qJ _, rfl, Below.refl _ _⟩
 case round =>
  obtain ⟨k, hk, rfl, hb⟩ := hrel
  by_cases hlt : k < N
  ·obtain ⟨b, off, rfl, hc, e3⟩ := (hF.below hb) k (by rw [HN.out]; exact hlt);obtain ⟨b', off', rfl, hc', d3⟩ := (hG.below hb) k (by rw [HM.out]; exact hlt);have hs := HS.out k hlt;generalize HG1 : fs[k]?.getD noLV = f at *;generalize HG2 : gs[k]?.getD noLV = g at *;clear HG1 HG2 hF hG;obtain ⟨x0, x1, x2, x3, x4, x5⟩ := six_of hc;obtain ⟨y0, y1, y2, y3, y4, y5⟩ := six_of hc';obtain ⟨fk, fp, fz, ⟨fa, fn, fcap, fc, fm, fcap', fK, fC, fD⟩⟩ := f;obtain ⟨gk, gp, gz, ⟨ga, gn, gcap, gc, gm, gcap', gK, gC, gD⟩⟩ := g;obtain ⟨iC, iD, i1, i2⟩ := e3;obtain ⟨jC, jD, j1, j2⟩ := d3;obtain ⟨z1, z2, z3, z4⟩ := hs;simp only at x0 x1 x2 x3 x4 x5 y0 y1 y2 y3 y4 y5 iC iD jC jD i1 i2 j1 j2 z1 z2 z3 z4;subst z1 z2 z3;clear hc hc';have hlt' : (k : Int) < (N : Int) := by omega
   go_wp2_with fail
   go_region_with (first | (go_at_call 79; refine (eqL_same fC fD gC gD (by exact iC.below (Below.refl _ _).drew) (by exact iD.below (Below.refl _ _).drew) (by exact jC.below (Below.refl _ _).drew) (by exact jD.below (Below.refl _ _).drew) i1 i2 j1 j2 z4).mono ?_; rintro ee w1 ⟨rfl, b1⟩))
   all_goals
    have b1' := below_of_drew b1
    go_wp2
    go_roundw
    case rel => exact ⟨k + 1, by omega, by go_num, btr hb b1'⟩
    case measure => simp [intOf]; omega
  go_wp2
  go_ret
  exact ⟨rfl, hb⟩
end Go.Proofs.YtdaiaohlkdolmaaGreat
