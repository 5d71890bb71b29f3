/-
  Lemmas that the claim's last text rests on.
-/
import Derived.Test.YtdaiaohlkdolmaaGreatLxN
namespace Go.Proofs.YtdaiaohlkdolmaaGreat
open Go.RowKit Go.Deep
open World renaming size_alloc → qA
open List renaming setIfInBounds_toArray → qB, set_cons_zero → qC, set_cons_succ → qD, getElem_cons_zero → qE, getElem_cons_succ → qF, getElem?_cons_zero → qG, getElem?_cons_succ → qH, getElem_toArray → qI
open Nat renaming le_refl → qJ
set_option linter.unusedVariables false
set_option linter.unusedSimpArgs false
set_option maxRecDepth 100000
set_option maxHeartbeats 25600000
def potB (m : Nat) (C D : List Int) (ss : List IV) (s : Int) (x U : List Int) (v : Nat) : Int × Int × Bool := bnds m C D ss s x (potX v).1 (potX v).2.1 (potX v).2.2 U
def over1 (b : Int × Int × Bool) : Bool := decide (10000 < b.1) || decide (b.2.1 < -10000)
def may1 (b : Int × Int × Bool) : Bool := decide (b.1 < -10000) || decide (10000 < b.2.1)
def pinned (f : Nat -> Bool) (x : List Int) : Bool := (List.range 3).any fun v => f v && (x[v]?.getD 0 != 0)
def tryL (m : Nat) (C D : List Int) (ss : List IV) (s : Int) (E U : List Int) (f : Nat -> Bool) (st : Bool) (AD TL : List Int) : Int × List Int × List Int × Bool :=
 if st then (2, [], E, true) else
 if pinned f AD || !okN 3 20000 3 (List.zipWith (· + ·) E AD) then (0, [], E, false) else
 if (List.range 3).any (fun v => over1 (potB m C D ss s (List.zipWith (· + ·) E AD) U v)) then (3, [], E, true) else
 if (List.range 3).any (fun v => may1 (potB m C D ss s (List.zipWith (· + ·) E AD) U v)) || !keepsB (D[s.toNat]?.getD 0) (List.zipWith (· + ·) E AD) ss then (0, [], E, false) else
 (1, TL, List.zipWith (· + ·) E AD, true)
def tryR (m : Nat) (C D : List Int) (ss : List IV) (s : Int) (E U : List Int) (f : Nat -> Bool) (r : RowM) : Int × List Int × List Int × Bool := tryL m C D ss s E U f r.stop (r.adds.map (atX C U)) (r.tells.map (atX C U))
def LocD (w w' : World) (r : Ending) (x : Int × List Int × List Int × Bool) : Prop :=
 ∃ a n cap B1 b k cap' B2, r = .returned (.tuple #[resV x.1 a n cap, .slice b k cap', .bool x.2.2.2]) /\ x.2.1.length = n /\ x.2.2.1.length = k /\ Below w.heap.size w w' /\ OwnX w' a B1 n x.2.1 /\ OwnX w' b B2 k x.2.2.1 /\ (0 < n -> w.heap.size <= B1) /\ (0 < k -> w.heap.size <= B2) /\ (0 < n -> 0 < k -> B1 ≠ B2)
theorem pot_fitP : ∀ k, k < 3 -> fitX 10000000 (way0.pots[k]?.getD ([], [], 0)) := fun k hk => (WayOk.start.pf k hk).mono (by have := wb_six (n := 0) (by omega); simp [wb] at *)
theorem any3 (p : Nat -> Bool) : (List.range 3).any p = (p 0 || (p 1 || (p 2 || false))) := rfl
theorem any_take {p : Nat -> Bool} {k : Nat} (hk : k < 3) (h : ∀ j, j < k -> p j = false) (h1 : p k = true) : (List.range 3).any p = true := List.any_eq_true.2 ⟨k, List.mem_range.2 hk, h1⟩
theorem any_none {p : Nat -> Bool} (h : ∀ j, j < 3 -> p j = false) : (List.range 3).any p = false := by
 rw [any3, h 0 (by omega), h 1 (by omega), h 2 (by omega)]; rfl
theorem ipin_any {G cg : Nat} (f : Nat -> Bool) {x : Option Addr} {cx : Nat} (X : List Int) {w : World} (hf : OwnBB w G f) (hX : Ints w x 3 X) :
  Calls Tryz.prog 38 #[.slice (some ⟨G, 0, none⟩) 3 cg, .slice x 3 cx] w fun e w' => e = .returned (.bool (pinned f X)) /\ w' = w := by
 obtain ⟨xb, xo, rfl, hc⟩ := hX.pos (by omega);have HC : Hid (∀ i, i < 3 -> w.cell? ⟨xb, xo + i, none⟩ = some (.int .i64 (X.getD i 0))) := hc;have HF : Hid (OwnBB w G f) := hf;clear hc hf
 go_enter Tryz.func38, Tryz.ntmps38
 go_wp2_with fail
 go_loopw [9] (fun i wr => ∃ k : Nat, k <= 3 /\ i = .int .i64 k /\ (∀ j, j < k -> (f j && (X[j]?.getD 0 != 0)) = false) /\ wr = w) (fun i _ => 3 - (intOf i).toNat)
 case atStart => exact ⟨0, by omega, rfl, fun j hj => by omega, rfl⟩
 case round =>
  obtain ⟨k, hk, rfl, hz, rfl⟩ := hrel;have HZ : Hid _ := hz;clear hz
  by_cases hlt : k < 3
  ·have hk' : (k : Int) < 3 := by omega
   have hx := HC.out k hlt;rw [List.getD_eq_getElem?_getD] at hx;have hp := (HF.out.at (v := k) hlt).1;have HP : Hid (∀ b y : Bool, f k = b -> (X[k]?.getD 0 != 0) = y -> (f k && (X[k]?.getD 0 != 0)) = (b && y)) := fun b y e1 e2 => by rw [e1, e2]
   obtain ⟨b, hb⟩ : ∃ b, f k = b := ⟨_, rfl⟩
   obtain ⟨y, hy⟩ : ∃ y, X[k]?.getD 0 = y := ⟨_, rfl⟩
   have HB : Hid (f k = b) := hb;have HY : Hid (X[k]?.getD 0 = y) := hy;rw [hb] at hp;rw [hy] at hx;clear hb hy HP
   cases b
   ·go_wp2
    go_roundw
    case rel => exact ⟨k + 1, by omega, by go_num, fun j hj => if h : j < k then HZ.out j h else by (obtain rfl : j = k := by omega); rw [HB.out]; rfl, by first | rfl | trivial⟩
    case measure => simp [intOf]; omega
   by_cases hy0 : y = 0
   ·have hy1 : (y != 0) = false := by simp [hy0]
    go_wp2
    go_roundw
    case rel => exact ⟨k + 1, by omega, by go_num, fun j hj => if h : j < k then HZ.out j h else by (obtain rfl : j = k := by omega); rw [HB.out, HY.out]; simp [hy0], by first | rfl | trivial⟩
    case measure => simp [intOf]; omega
   have hy1 : (y != 0) = true := by simp [hy0]
   go_wp2
   go_ret
   exact ⟨by (show Ending.returned (.bool true) = _); rw [show pinned f X = true from any_take hlt HZ.out (by rw [HB.out, HY.out]; simp [hy0])], rfl⟩
  have hk' : ¬ (k : Int) < 3 := by omega
  go_wp2
  go_ret
  exact ⟨by (show Ending.returned (.bool false) = _); rw [show pinned f X = false from any_none (fun j hj => HZ.out j (by omega))], rfl⟩
theorem iover_any (x y : Int) (b : Bool) {w : World} : Calls Tryz.prog 77 #[.agg #[.int .i64 x, .int .i64 y, .bool b]] w fun e w' => e = .returned (.bool (over1 (x, y, b))) /\ Below w.heap.size w w' := by
 have al := (Below.refl w.heap.size w).alloc (qJ _) (.cells #[.int .i64 x, .int .i64 y, .bool b] 111)
 go_enter Tryz.func77, Tryz.ntmps77
 by_cases h1 : 10000 < x
 ·have h2 : x > 10000 := h1
  go_wp2
  go_ret
  exact ⟨by simp [over1, h1] <;> omega, al⟩
 have h2 : ¬ x > 10000 := h1
 go_wp2
 go_ret
 exact ⟨by simp [over1, h1] <;> omega, al⟩
theorem imay1_any (x y : Int) (b : Bool) {w : World} : Calls Tryz.prog 78 #[.agg #[.int .i64 x, .int .i64 y, .bool b]] w fun e w' => e = .returned (.bool (may1 (x, y, b))) /\ Below w.heap.size w w' := by
 have al := (Below.refl w.heap.size w).alloc (qJ _) (.cells #[.int .i64 x, .int .i64 y, .bool b] 111)
 go_enter Tryz.func78, Tryz.ntmps78
 by_cases h1 : x < -10000
 ·go_wp2
  go_ret
  exact ⟨by simp [may1, h1] <;> omega, al⟩
 go_wp2
 go_ret
 exact ⟨by simp [may1, h1] <;> omega, al⟩
theorem isover_any (a : Option Addr) (cap : Nat) (c : Option Addr) (m cap' : Nat) (G N pc : Nat) (s : Int) (e : Option Addr) (ec : Nat) (u : Option Addr) (uc : Nat) (C D E U : List Int) (ss : List IV) {w : World} (hv : Vw w a c m G e u C D E U ss) (hb : Vb m N C D E U ss) :
  Calls Tryz.prog 76 #[viewV a 3 cap c m cap' (some ⟨G, 0, none⟩) N pc s e 3 ec u 2 uc, .func (.func 77) #[] #[]] w fun r w' => r = .returned (.bool ((List.range 3).any fun v => over1 (potB m C D ss s E U v))) /\ Below w.heap.size w w' := by
 have al := (Below.refl w.heap.size w).alloc (qJ _) (.cells #[.slice a 3 cap, .slice c m cap', .slice (some ⟨G, 0, none⟩) N pc, .int .i64 s, .slice e 3 ec, .slice u 2 uc] 63);have q0 := Cel.new w [.slice a 3 cap, .slice c m cap', .slice (some ⟨G, 0, none⟩) N pc, .int .i64 s, .slice e 3 ec, .slice u 2 uc] 63
 go_enter Tryz.func76, Tryz.ntmps76
 go_wp2_with fail
 refine (ipots_any).mono ?_;rintro ee w1 ⟨v, xs, rfl, jv⟩;obtain ⟨pa, cp, rfl, hP⟩ := jv.slice rfl;replace q0 := q0.below jv.b;have b1 := btr al jv.b;have HP : Hid (FormsAt w1 pa way0.pots) := hP;have HW : Hid (Vw w1 a c m G e u C D E U ss) := hv.below b1;clear hP al jv hv
 go_wp2_with fail
 go_loopw [9] (fun i wr => ∃ k : Nat, k <= 3 /\ i = .int .i64 k /\ (∀ j, j < k -> over1 (potB m C D ss s E U j) = false) /\ Below w1.heap.size w1 wr) (fun i _ => 3 - (intOf i).toNat)
 case atStart => exact ⟨0, by omega, rfl, fun j hj => by omega, Below.refl _ _⟩
 case round =>
  obtain ⟨k, hk, rfl, hz, bk⟩ := hrel;have HZ : Hid _ := hz;clear hz
  by_cases hlt : k < 3
  ·have hk' : (k : Int) < 3 := by omega
   obtain ⟨b, off, rfl, a', c', ca, cc, c0, c1, c2, iC, iD⟩ := (HP.out.keep bk) k (show k < way0.pots.length from hlt)
   have hg : way0.pots[k]?.getD ([], [], 0) = potX k := by
    match k, hlt with
    | 0, _ => rfl
    | 1, _ => rfl
    | 2, _ => rfl
   rw [hg] at c2 iC iD;have hfit := pot_fitP k hlt;rw [hg] at hfit;obtain ⟨lC, lD, bA, bB, bK1, bK2⟩ := hfit;have HB : Hid (potB m C D ss s E U k = bnds m C D ss s E (potX k).1 (potX k).2.1 (potX k).2.2 U) := rfl;generalize potX k = g at c2 iC iD lC lD bA bB bK1 bK2 HB;obtain ⟨gC, gD, gK⟩ := g;dsimp only at c2 iC iD lC lD bA bB bK1 bK2 HB;have bz := (Below.refl wr.heap.size wr).alloc (qJ _) (.cells #[.slice a' 3 ca, .slice c' 2 cc, .int .i64 gK] 81);have fz := Cel.new wr [.slice a' 3 ca, .slice c' 2 cc, .int .i64 gK] 81;have bzy := btr bk bz;have m0 := q0.below bzy;have n0 := m0.cell 0;have n1 := m0.cell 1;have n2 := m0.cell 2;have n3 := m0.cell 3;have n4 := m0.cell 4;have n5 := m0.cell 5;have z0 := fz.cell 0;have z1 := fz.cell 1;have z2 := fz.cell 2;simp only [qG, qH] at n0 n1 n2 n3 n4 n5 z0 z1 z2
   go_wp2_with fail
   obtain ⟨Z, hZ⟩ : ∃ Z, Z = wr.alloc (.cells #[.slice a' 3 ca, .slice c' 2 cc, .int .i64 gK] 81) := ⟨_, rfl⟩
   rw [<- hZ] at bz bzy ⊢;clear hZ c0 c1 c2 m0 n0 n1 n2 n3 n4 n5 z0 z1 z2 fz;have vZ := HW.out.below bzy;refine (vbounds_any a cap c m cap' (some ⟨G, 0, none⟩) N pc s e ec u uc a' ca c' cc gK C D E U gC gD ss Z vZ.hC vZ.hD vZ.hE vZ.hU (iC.below bz) (iD.below bz) hb.hN vZ.isg hb.hN1 hb.hm3 hb.bC hb.bE hb.bU bA bB ⟨bK1, bK2⟩ hb.bD).mono ?_;rintro ee w6 ⟨x, hx, rfl, b6⟩;have HX : Hid (potB m C D ss s E U k = x) := by show _ = _; rw [HB.out, hx]
   obtain ⟨lo, hi, kn⟩ := x;dsimp only;have bw := btr bzy b6;clear hx iC iD bz bzy vZ b6 lC lD bA bB bK1 bK2 HB
   go_wp2_with fail
   refine (iover_any lo hi kn).mono ?_;rintro ee w7 ⟨rfl, b7⟩;have b8 := btr bw b7;clear b7 bw
   cases hp : over1 (lo, hi, kn)
   ·go_wp2
    go_roundw
    case rel => exact ⟨k + 1, by omega, by go_num, fun j hj => if h : j < k then HZ.out j h else by (obtain rfl : j = k := by omega); rw [HX.out, hp], b8⟩
    case measure => simp [intOf]; omega
   go_wp2
   go_ret
   exact ⟨by (show Ending.returned (.bool true) = _); rw [any_take hlt HZ.out (by rw [HX.out, hp])], btr b1 b8⟩
  have hk' : ¬ (k : Int) < 3 := by omega
  go_wp2
  go_ret
  exact ⟨by (show Ending.returned (.bool false) = _); first | rw [any_none (fun j hj => HZ.out j (by omega))] | (rw [HZ.out 0 (by omega), HZ.out 1 (by omega), HZ.out 2 (by omega)]; rfl), btr b1 bk⟩
theorem ismay_any (a : Option Addr) (cap : Nat) (c : Option Addr) (m cap' : Nat) (G N pc : Nat) (s : Int) (e : Option Addr) (ec : Nat) (u : Option Addr) (uc : Nat) (C D E U : List Int) (ss : List IV) {w : World} (hv : Vw w a c m G e u C D E U ss) (hb : Vb m N C D E U ss) :
  Calls Tryz.prog 76 #[viewV a 3 cap c m cap' (some ⟨G, 0, none⟩) N pc s e 3 ec u 2 uc, .func (.func 78) #[] #[]] w fun r w' => r = .returned (.bool ((List.range 3).any fun v => may1 (potB m C D ss s E U v))) /\ Below w.heap.size w w' := by
 have al := (Below.refl w.heap.size w).alloc (qJ _) (.cells #[.slice a 3 cap, .slice c m cap', .slice (some ⟨G, 0, none⟩) N pc, .int .i64 s, .slice e 3 ec, .slice u 2 uc] 63);have q0 := Cel.new w [.slice a 3 cap, .slice c m cap', .slice (some ⟨G, 0, none⟩) N pc, .int .i64 s, .slice e 3 ec, .slice u 2 uc] 63
 go_enter Tryz.func76, Tryz.ntmps76
 go_wp2_with fail
 refine (ipots_any).mono ?_;rintro ee w1 ⟨v, xs, rfl, jv⟩;obtain ⟨pa, cp, rfl, hP⟩ := jv.slice rfl;replace q0 := q0.below jv.b;have b1 := btr al jv.b;have HP : Hid (FormsAt w1 pa way0.pots) := hP;have HW : Hid (Vw w1 a c m G e u C D E U ss) := hv.below b1;clear hP al jv hv
 go_wp2_with fail
 go_loopw [9] (fun i wr => ∃ k : Nat, k <= 3 /\ i = .int .i64 k /\ (∀ j, j < k -> may1 (potB m C D ss s E U j) = false) /\ Below w1.heap.size w1 wr) (fun i _ => 3 - (intOf i).toNat)
 case atStart => exact ⟨0, by omega, rfl, fun j hj => by omega, Below.refl _ _⟩
 case round =>
  obtain ⟨k, hk, rfl, hz, bk⟩ := hrel;have HZ : Hid _ := hz;clear hz
  by_cases hlt : k < 3
  ·have hk' : (k : Int) < 3 := by omega
   obtain ⟨b, off, rfl, a', c', ca, cc, c0, c1, c2, iC, iD⟩ := (HP.out.keep bk) k (show k < way0.pots.length from hlt)
   have hg : way0.pots[k]?.getD ([], [], 0) = potX k := by
    match k, hlt with
    | 0, _ => rfl
    | 1, _ => rfl
    | 2, _ => rfl
   rw [hg] at c2 iC iD;have hfit := pot_fitP k hlt;rw [hg] at hfit;obtain ⟨lC, lD, bA, bB, bK1, bK2⟩ := hfit;have HB : Hid (potB m C D ss s E U k = bnds m C D ss s E (potX k).1 (potX k).2.1 (potX k).2.2 U) := rfl;generalize potX k = g at c2 iC iD lC lD bA bB bK1 bK2 HB;obtain ⟨gC, gD, gK⟩ := g;dsimp only at c2 iC iD lC lD bA bB bK1 bK2 HB;have bz := (Below.refl wr.heap.size wr).alloc (qJ _) (.cells #[.slice a' 3 ca, .slice c' 2 cc, .int .i64 gK] 81);have fz := Cel.new wr [.slice a' 3 ca, .slice c' 2 cc, .int .i64 gK] 81;have bzy := btr bk bz;have m0 := q0.below bzy;have n0 := m0.cell 0;have n1 := m0.cell 1;have n2 := m0.cell 2;have n3 := m0.cell 3;have n4 := m0.cell 4;have n5 := m0.cell 5;have z0 := fz.cell 0;have z1 := fz.cell 1;have z2 := fz.cell 2;simp only [qG, qH] at n0 n1 n2 n3 n4 n5 z0 z1 z2
   go_wp2_with fail
   obtain ⟨Z, hZ⟩ : ∃ Z, Z = wr.alloc (.cells #[.slice a' 3 ca, .slice c' 2 cc, .int .i64 gK] 81) := ⟨_, rfl⟩
   rw [<- hZ] at bz bzy ⊢;clear hZ c0 c1 c2 m0 n0 n1 n2 n3 n4 n5 z0 z1 z2 fz;have vZ := HW.out.below bzy;refine (vbounds_any a cap c m cap' (some ⟨G, 0, none⟩) N pc s e ec u uc a' ca c' cc gK C D E U gC gD ss Z vZ.hC vZ.hD vZ.hE vZ.hU (iC.below bz) (iD.below bz) hb.hN vZ.isg hb.hN1 hb.hm3 hb.bC hb.bE hb.bU bA bB ⟨bK1, bK2⟩ hb.bD).mono ?_;rintro ee w6 ⟨x, hx, rfl, b6⟩;have HX : Hid (potB m C D ss s E U k = x) := by show _ = _; rw [HB.out, hx]
   obtain ⟨lo, hi, kn⟩ := x;dsimp only;have bw := btr bzy b6;clear hx iC iD bz bzy vZ b6 lC lD bA bB bK1 bK2 HB
   go_wp2_with fail
   refine (imay1_any lo hi kn).mono ?_;rintro ee w7 ⟨rfl, b7⟩;have b8 := btr bw b7;clear b7 bw
   cases hp : may1 (lo, hi, kn)
   ·go_wp2
    go_roundw
    case rel => exact ⟨k + 1, by omega, by go_num, fun j hj => if h : j < k then HZ.out j h else by (obtain rfl : j = k := by omega); rw [HX.out, hp], b8⟩
    case measure => simp [intOf]; omega
   go_wp2
   go_ret
   exact ⟨by (show Ending.returned (.bool true) = _); rw [any_take hlt HZ.out (by rw [HX.out, hp])], btr b1 b8⟩
  have hk' : ¬ (k : Int) < 3 := by omega
  go_wp2
  go_ret
  exact ⟨by (show Ending.returned (.bool false) = _); first | rw [any_none (fun j hj => HZ.out j (by omega))] | (rw [HZ.out 0 (by omega), HZ.out 1 (by omega), HZ.out 2 (by omega)]; rfl), btr b1 bk⟩
theorem itry_any (a : Option Addr) (cap : Nat) (c : Option Addr) (m cap' : Nat) (G N pc : Nat) (s : Int) (e : Option Addr) (ec : Nat) (u : Option Addr) (uc : Nat) (C D E U : List Int) (ss : List IV) (ga : Option Addr) (G0 gc : Nat) (gs : List FV) (aa : Option Addr) (A ac : Nat) (us : List FV) (ta : Option Addr) (T tc : Nat) (ts : List FV) (st : Bool) (P cg : Nat) (f : Nat -> Bool) {w : World}
  (hv : Vw w a c m G e u C D E U ss) (hb : Vb m N C D E U ss) (hps : partsB ss = true) (hs0 : 0 <= s) (hs1 : s < m) (RA : RowAt w ga G0 gs aa A us ta T ts) (hB : rowB gs us ts A T st = true) (hp : OwnBB w P f) :
  Calls Tryz.prog 41 #[viewV a 3 cap c m cap' (some ⟨G, 0, none⟩) N pc s e 3 ec u 2 uc, rowV ga G0 gc aa A ac ta T tc st, .slice (some ⟨P, 0, none⟩) 3 cg] w fun r w' => LocD w w' r (tryL m C D ss s E U f st (us.map (atF C U)) (ts.map (atF C U))) := by
 have hq3 := hb.hN;have l3E : E.length = 3 := hv.hE.1;have HE3 : Hid (E.length = 3) := l3E;clear l3E hq3;obtain ⟨AD, hAD⟩ : ∃ x, us.map (atF C U) = x := ⟨_, rfl⟩
 have HAD : Hid (us.map (atF C U) = AD) := hAD;obtain ⟨TL, hTL⟩ : ∃ x, ts.map (atF C U) = x := ⟨_, rfl⟩
 have HTL : Hid (ts.map (atF C U) = TL) := hTL;rw [hAD, hTL];have bAD : bnd 1000000000000 AD := by rw [<- hAD]; exact ats_bnd (rowB_g hB).2.1 hb.bC hb.bU
 have HOU : Hid (us.all FV.ok = true /\ ts.all FV.ok = true) := ⟨(rowB_g hB).2.1, (rowB_g hB).2.2⟩
 have hA3 : st = false -> A = 3 := fun h => by subst h; exact rowB_three hB
 have lAD : AD.length = A := by rw [<- hAD, List.length_map]; exact RA.ha
 have lTL : TL.length = T := by rw [<- hTL, List.length_map]; exact RA.ht
 have HLA : Hid (AD.length = A) := lAD;have HLT : Hid (TL.length = T) := lTL;clear hAD hTL lAD lTL hB
 cases st
 ·obtain rfl : A = 3 := hA3 rfl
  go_enter Tryz.func41, Tryz.ntmps41
  have al := (Below.refl (w).heap.size (w)).alloc (qJ _) (.cells #[.slice a 3 cap, .slice c m cap', .slice (some ⟨G, 0, none⟩) N pc, .int .i64 s, .slice e 3 ec, .slice u 2 uc] 63);have BB := al;replace hv := hv.below al;replace hp := hp.below al;replace RA := RA.below al;clear al;have q3 := Cel.new (w) [.slice a 3 cap, .slice c m cap', .slice (some ⟨G, 0, none⟩) N pc, .int .i64 s, .slice e 3 ec, .slice u 2 uc] 63;have al := (Below.refl ((w).alloc (.cells #[.slice a 3 cap, .slice c m cap', .slice (some ⟨G, 0, none⟩) N pc, .int .i64 s, .slice e 3 ec, .slice u 2 uc] 63)).heap.size ((w).alloc (.cells #[.slice a 3 cap, .slice c m cap', .slice (some ⟨G, 0, none⟩) N pc, .int .i64 s, .slice e 3 ec, .slice u 2 uc] 63))).alloc (qJ _) (.cells #[.slice ga G0 gc, .slice aa 3 ac, .slice ta T tc, .bool false] 68);replace BB := btr BB al;replace hv := hv.below al;replace hp := hp.below al;replace RA := RA.below al;replace q3 := q3.below al;clear al;have q4 := Cel.new ((w).alloc (.cells #[.slice a 3 cap, .slice c m cap', .slice (some ⟨G, 0, none⟩) N pc, .int .i64 s, .slice e 3 ec, .slice u 2 uc] 63)) [.slice ga G0 gc, .slice aa 3 ac, .slice ta T tc, .bool false] 68;simp only [qA] at q4
  have al := (Below.refl (((w).alloc (.cells #[.slice a 3 cap, .slice c m cap', .slice (some ⟨G, 0, none⟩) N pc, .int .i64 s, .slice e 3 ec, .slice u 2 uc] 63)).alloc (.cells #[.slice ga G0 gc, .slice aa 3 ac, .slice ta T tc, .bool false] 68)).heap.size (((w).alloc (.cells #[.slice a 3 cap, .slice c m cap', .slice (some ⟨G, 0, none⟩) N pc, .int .i64 s, .slice e 3 ec, .slice u 2 uc] 63)).alloc (.cells #[.slice ga G0 gc, .slice aa 3 ac, .slice ta T tc, .bool false] 68))).alloc (qJ _) (.cells #[.int .i64 0, .slice none 0 0] 29);replace BB := btr BB al;replace hv := hv.below al;replace hp := hp.below al;replace RA := RA.below al;replace q3 := q3.below al;replace q4 := q4.below al;clear al;have q6 := Cel.new (((w).alloc (.cells #[.slice a 3 cap, .slice c m cap', .slice (some ⟨G, 0, none⟩) N pc, .int .i64 s, .slice e 3 ec, .slice u 2 uc] 63)).alloc (.cells #[.slice ga G0 gc, .slice aa 3 ac, .slice ta T tc, .bool false] 68)) [.int .i64 0, .slice none 0 0] 29;simp only [qA] at q6;obtain ⟨g3_0, g3_1, g3_2, g3_3, g3_4, g3_5⟩ := q3.c6;obtain ⟨g4_0, g4_1, g4_2, g4_3⟩ := q4.c4;obtain ⟨g6_0, g6_1⟩ := q6.c2
  go_wp2_with fail
  generalize (((w).alloc (.cells #[.slice a 3 cap, .slice c m cap', .slice (some ⟨G, 0, none⟩) N pc, .int .i64 s, .slice e 3 ec, .slice u 2 uc] 63)).alloc (.cells #[.slice ga G0 gc, .slice aa 3 ac, .slice ta T tc, .bool false] 68)).alloc (.cells #[.int .i64 0, .slice none 0 0] 29) = W1 at hv hp RA q3 q4 q6 BB g3_0 g3_1 g3_2 g3_3 g3_4 g3_5 g4_0 g4_1 g4_2 g4_3 g6_0 g6_1 ⊢;obtain ⟨X6, hX6⟩ : ∃ x, x = w.heap.size + 1 + 1 := ⟨_, rfl⟩
  rw [<- hX6];rw [<- hX6] at q6 g6_0 g6_1;have loX6 : w.heap.size + 1 + 1 <= X6 := by omega
  have upX6 : X6 <= w.heap.size + 1 + 1 := by omega
  clear hX6;obtain ⟨X4, hX4⟩ : ∃ x, x = w.heap.size + 1 := ⟨_, rfl⟩
  rw [<- hX4];rw [<- hX4] at q4 g4_0 g4_1 g4_2 g4_3;have loX4 : w.heap.size + 1 <= X4 := by omega
  have upX4 : X4 <= w.heap.size + 1 := by omega
  clear hX4;obtain ⟨X3, hX3⟩ : ∃ x, x = w.heap.size := ⟨_, rfl⟩
  rw [<- hX3];rw [<- hX3] at q3 g3_0 g3_1 g3_2 g3_3 g3_4 g3_5;have loX3 : w.heap.size <= X3 := by omega
  have upX3 : X3 <= w.heap.size := by omega
  clear hX3;refine (formsAt_any us C U RA.ha RA.a (by omega) HOU.out.1 hv.hC hv.hU hb.bC hb.bU).mono ?_;rintro ee w2 ⟨vA, rfl, jA⟩;rw [HAD.out] at jA;obtain ⟨xa, xcap, XB, rfl, oA, loA⟩ := jA.ownx HLA.out;have bA := jA.b;have loA2 := loA (by omega);clear jA loA;clear g3_0 g3_1 g3_2 g3_3 g3_4 g3_5 g4_0 g4_1 g4_2 g4_3 g6_0 g6_1;replace BB := btr BB bA;replace hv := hv.below bA;replace hp := hp.below bA;replace RA := RA.below bA;replace q3 := q3.below bA;replace q4 := q4.below bA;replace q6 := q6.below bA;clear bA;have hc0 : Below w2.heap.size w2 w2 := Below.refl _ _;have hv0 := hv;have hp0 := hp;have RA0 := RA;have oA0 := oA;have q30 := q3;have q40 := q4;have q60 := q6;have zB := BB.size;obtain ⟨g3_0, g3_1, g3_2, g3_3, g3_4, g3_5⟩ := q3.c6
  go_upto_region 5 with fail
  clear g3_0 g3_1 g3_2 g3_3 g3_4 g3_5;have lt6w := q6.lt;have al := (Below.refl (w2).heap.size (w2)).alloc (qJ _) (.cells #[.slice a 3 cap, .slice c m cap', .slice (some ⟨G, 0, none⟩) N pc, .int .i64 s, .slice e 3 ec, .slice u 2 uc] 63);replace BB := btr BB al;replace hc0 := btr hc0 al;replace hv := hv.below al;replace hp := hp.below al;replace RA := RA.below al;replace oA := oA.below al;replace q3 := q3.below al;replace q4 := q4.below al;replace q6 := q6.below al;clear al;have q10 := Cel.new (w2) [.slice a 3 cap, .slice c m cap', .slice (some ⟨G, 0, none⟩) N pc, .int .i64 s, .slice e 3 ec, .slice u 2 uc] 63;generalize (w2).alloc (.cells #[.slice a 3 cap, .slice c m cap', .slice (some ⟨G, 0, none⟩) N pc, .int .i64 s, .slice e 3 ec, .slice u 2 uc] 63) = W3 at hv hp RA oA q3 q4 q6 q10 BB hc0 ⊢;obtain ⟨X10, hX10⟩ : ∃ x, x = w2.heap.size := ⟨_, rfl⟩
  rw [<- hX10];rw [<- hX10] at q10;have loX10 : w2.heap.size <= X10 := by omega
  have upX10 : X10 <= w2.heap.size := by omega
  clear hX10;have ltX10 := q10.lt;have ltX6 := q6.lt;obtain ⟨g3_0, g3_1, g3_2, g3_3, g3_4, g3_5⟩ := q3.c6;obtain ⟨g4_0, g4_1, g4_2, g4_3⟩ := q4.c4;obtain ⟨g6_0, g6_1⟩ := q6.c2;obtain ⟨g10_0, g10_1, g10_2, g10_3, g10_4, g10_5⟩ := q10.c6
  go_wp2_with fail
  refine (sums_any E AD 20000 1000000000000 hv.hE oA.ints hb.bE bAD).mono ?_;rintro ee w4 ⟨ya, ycap, YB, rfl, bS, oS, loS⟩;clear g3_0 g3_1 g3_2 g3_3 g3_4 g3_5 g4_0 g4_1 g4_2 g4_3 g6_0 g6_1 g10_0 g10_1 g10_2 g10_3 g10_4 g10_5;replace BB := btr BB bS;replace hc0 := btr hc0 bS;replace hv := hv.below bS;replace hp := hp.below bS;replace RA := RA.below bS;replace oA := oA.below bS;replace q3 := q3.below bS;replace q4 := q4.below bS;replace q6 := q6.below bS;replace q10 := q10.below bS;clear bS;obtain ⟨XX, hXX⟩ : ∃ x, List.zipWith (· + ·) E AD = x := ⟨_, rfl⟩
  have HXX : Hid (List.zipWith (· + ·) E AD = XX) := hXX;have HX3 : Hid (XX.length = 3) := by (show _ = _; rw [<- hXX, List.length_zipWith, HE3.out, HLA.out]; rfl)
  rw [hXX] at oS;clear hXX;have ltS := oS.lt (by omega);obtain ⟨g3_0, g3_1, g3_2, g3_3, g3_4, g3_5⟩ := q3.c6;obtain ⟨g4_0, g4_1, g4_2, g4_3⟩ := q4.c4;obtain ⟨g6_0, g6_1⟩ := q6.c2;obtain ⟨g10_0, g10_1, g10_2, g10_3, g10_4, g10_5⟩ := q10.c6;have f10_4 := q10.free 4;have l10 := q10.lt
  go_upto_region 6 with fail
  clear f10_4;clear g3_0 g3_1 g3_2 g3_3 g3_4 g3_5 g4_0 g4_1 g4_2 g4_3 g6_0 g6_1 g10_0 g10_1 g10_2 g10_3 g10_4 g10_5;replace BB := BB.setCell (p := ⟨X10, 4, none⟩) (by simp only []; omega) (.slice ya 3 ycap);replace hc0 := hc0.setCell (p := ⟨X10, 4, none⟩) (by simp only []; omega) (.slice ya 3 ycap);replace q10 := q10.set 4 (.slice ya 3 ycap);simp only [qC, qD] at q10;replace oS := oS.setOther (X := X10) (fun _ => by omega) 4 (.slice ya 3 ycap);replace hv := hv0.below hc0;replace hp := hp0.below hc0;replace RA := RA0.below hc0;replace oA := oA0.below hc0;replace q3 := q30.below hc0;replace q4 := q40.below hc0;replace q6 := q60.below hc0;clear hv0 hp0 RA0 oA0 q30 q40 q60;obtain ⟨W5, hW5⟩ : ∃ W, W = (w4.setCell ⟨X10, 4, none⟩ (.slice ya 3 ycap)) := ⟨_, rfl⟩
  rw [<- hW5];rw [<- hW5] at BB hc0 q10 oS hv hp RA oA q3 q4 q6;have hszW5 : w4.heap.size <= W5.heap.size := by rw [hW5, size_setCell]; exact qJ _
  clear hW5;clear hc0;have hv2 : Vw W5 a c m G ya u C D XX U ss := ⟨hv.hC, hv.hD, oS.ints, hv.hU, hv.hP, hv.hI⟩
  obtain ⟨g3_0, g3_1, g3_2, g3_3, g3_4, g3_5⟩ := q3.c6;obtain ⟨g4_0, g4_1, g4_2, g4_3⟩ := q4.c4;obtain ⟨g6_0, g6_1⟩ := q6.c2;obtain ⟨g10_0, g10_1, g10_2, g10_3, g10_4, g10_5⟩ := q10.c6
  go_wp2_with fail
  go_wp2_with fail
  refine (ipin_any f AD hp oA.ints).mono ?_;rintro ee v6 ⟨rfl, rfl⟩
  cases h1 : pinned f AD
  ·go_wp2_with fail
   refine (imay_any XX oS.ints (by omega)).mono ?_;rintro ee v7 ⟨rfl, rfl⟩
   cases h2 : okN 3 20000 3 XX
   ·go_wp2_with fail
    have lX6 := q6.lt;refine (clone_any _ _ E hv.hE).mono ?_;rintro ee w8 ⟨vE, rfl, jE⟩;obtain ⟨ea, ecap, EB, rfl, oE, loE⟩ := jE.ownx HE3.out;have bE := jE.b;have loE2 := loE (by omega);have ltE := oE.lt (by omega);clear jE loE;clear g3_0 g3_1 g3_2 g3_3 g3_4 g3_5 g4_0 g4_1 g4_2 g4_3 g6_0 g6_1 g10_0 g10_1 g10_2 g10_3 g10_4 g10_5;replace BB := btr BB bE;replace hv := hv.below bE;replace hp := hp.below bE;replace RA := RA.below bE;replace oA := oA.below bE;replace oS := oS.below bE;replace hv2 := hv2.below bE;replace q3 := q3.below bE;replace q4 := q4.below bE;replace q6 := q6.below bE;replace q10 := q10.below bE;clear bE;obtain ⟨g6_0, g6_1⟩ := q6.c2;have f6_0 := q6.free 0;have f6_1 := q6.free 1;have l6 := q6.lt;have z6 := (q6.set 0 (.int .i64 0)).set 1 (.slice none 0 0);have z60 := z6.cell 0;have z61 := z6.cell 1;simp only [qG, qH, qC, qD] at z60 z61;clear z6;have hBB := (BB.setCell (p := ⟨X6, 0, none⟩) (by simp only []; omega) (.int .i64 0)).setCell (p := ⟨X6, 1, none⟩) (by simp only []; omega) (.slice none 0 0);have o_oE := (oE.setOther (X := X6) (fun _ => by omega) 0 (.int .i64 0)).setOther (X := X6) (fun _ => by omega) 1 (.slice none 0 0);have HR : Hid (tryL m C D ss s E U f false AD TL = (0, [], E, false)) := by (show _ = _; exact (show tryL m C D ss s E U f false AD TL = (0, [], E, false) from by simp [tryL, h1, HXX.out, h2]))
    go_wp2
    exact bodyPost_ret (v := .tuple #[resV 0 none 0 0, .slice ea 3 ecap, .bool false]) (by simp [results, Tryz.results41, go_sem, z60, z61]) rfl (by rw [HR.out]; unfold LocD; exact ⟨none, 0, 0, 0, ea, 3, ecap, EB, rfl, rfl, HE3.out, hBB, OwnX.nil _ _ 0, o_oE, fun h => absurd h (by omega), fun _ => by omega, fun h _ => absurd h (by omega)⟩)
   have bX : bnd 20000 XX := (okN_nat (by omega) h2).2;have hb2 : Vb m N C D XX U ss := ⟨hb.hN, hb.hN1, hb.hm3, hb.bC, bX, hb.bU, hb.bD⟩
   have HM : Hid (okN 3 20000 3 XX = true) := h2
   go_wp2_with fail
   refine (isover_any a cap c m cap' G N pc s ya ycap u uc C D XX U ss hv2 hb2).mono ?_;rintro ee w8 ⟨rfl, b7⟩;clear g3_0 g3_1 g3_2 g3_3 g3_4 g3_5 g4_0 g4_1 g4_2 g4_3 g6_0 g6_1 g10_0 g10_1 g10_2 g10_3 g10_4 g10_5;replace BB := btr BB b7;replace hv := hv.below b7;replace hp := hp.below b7;replace RA := RA.below b7;replace oA := oA.below b7;replace oS := oS.below b7;replace hv2 := hv2.below b7;replace q3 := q3.below b7;replace q4 := q4.below b7;replace q6 := q6.below b7;replace q10 := q10.below b7;clear b7
   cases h3 : (List.range 3).any (fun v => over1 (potB m C D ss s XX U v))
   ·obtain ⟨g3_0, g3_1, g3_2, g3_3, g3_4, g3_5⟩ := q3.c6;obtain ⟨g4_0, g4_1, g4_2, g4_3⟩ := q4.c4;obtain ⟨g6_0, g6_1⟩ := q6.c2;obtain ⟨g10_0, g10_1, g10_2, g10_3, g10_4, g10_5⟩ := q10.c6
    go_wp2_with fail
    refine (ismay_any a cap c m cap' G N pc s ya ycap u uc C D XX U ss hv2 hb2).mono ?_;rintro ee w9 ⟨rfl, b8⟩;clear g3_0 g3_1 g3_2 g3_3 g3_4 g3_5 g4_0 g4_1 g4_2 g4_3 g6_0 g6_1 g10_0 g10_1 g10_2 g10_3 g10_4 g10_5;replace BB := btr BB b8;replace hv := hv.below b8;replace hp := hp.below b8;replace RA := RA.below b8;replace oA := oA.below b8;replace oS := oS.below b8;replace hv2 := hv2.below b8;replace q3 := q3.below b8;replace q4 := q4.below b8;replace q6 := q6.below b8;replace q10 := q10.below b8;clear b8
    cases h4 : (List.range 3).any (fun v => may1 (potB m C D ss s XX U v))
    ·obtain ⟨g3_0, g3_1, g3_2, g3_3, g3_4, g3_5⟩ := q3.c6;obtain ⟨g4_0, g4_1, g4_2, g4_3⟩ := q4.c4;obtain ⟨g6_0, g6_1⟩ := q6.c2;obtain ⟨g10_0, g10_1, g10_2, g10_3, g10_4, g10_5⟩ := q10.c6
     go_wp2_with fail
     refine (vkeeps_any _ _ _ _ _ _ _ _ _ s _ _ _ _ _ C D XX ss hv2.hD hv2.hE hb.hN hv2.isg hb.hN1 hb.hm3 hs0 hs1 hps bX hb.bD).mono ?_;rintro ee w10 ⟨rfl, b9⟩;clear g3_0 g3_1 g3_2 g3_3 g3_4 g3_5 g4_0 g4_1 g4_2 g4_3 g6_0 g6_1 g10_0 g10_1 g10_2 g10_3 g10_4 g10_5;replace BB := btr BB b9;replace hv := hv.below b9;replace hp := hp.below b9;replace RA := RA.below b9;replace oA := oA.below b9;replace oS := oS.below b9;replace hv2 := hv2.below b9;replace q3 := q3.below b9;replace q4 := q4.below b9;replace q6 := q6.below b9;replace q10 := q10.below b9;clear b9
     cases h5 : keepsB (D[s.toNat]?.getD 0) XX ss
     ·obtain ⟨g3_0, g3_1, g3_2, g3_3, g3_4, g3_5⟩ := q3.c6;obtain ⟨g4_0, g4_1, g4_2, g4_3⟩ := q4.c4;obtain ⟨g6_0, g6_1⟩ := q6.c2;obtain ⟨g10_0, g10_1, g10_2, g10_3, g10_4, g10_5⟩ := q10.c6
      go_wp2_with fail
      have lX6 := q6.lt;refine (clone_any _ _ E hv.hE).mono ?_;rintro ee w11 ⟨vE, rfl, jE⟩;obtain ⟨ea, ecap, EB, rfl, oE, loE⟩ := jE.ownx HE3.out;have bE := jE.b;have loE2 := loE (by omega);have ltE := oE.lt (by omega);clear jE loE;clear g3_0 g3_1 g3_2 g3_3 g3_4 g3_5 g4_0 g4_1 g4_2 g4_3 g6_0 g6_1 g10_0 g10_1 g10_2 g10_3 g10_4 g10_5;replace BB := btr BB bE;replace hv := hv.below bE;replace hp := hp.below bE;replace RA := RA.below bE;replace oA := oA.below bE;replace oS := oS.below bE;replace hv2 := hv2.below bE;replace q3 := q3.below bE;replace q4 := q4.below bE;replace q6 := q6.below bE;replace q10 := q10.below bE;clear bE;obtain ⟨g6_0, g6_1⟩ := q6.c2;have f6_0 := q6.free 0;have f6_1 := q6.free 1;have l6 := q6.lt;have z6 := (q6.set 0 (.int .i64 0)).set 1 (.slice none 0 0);have z60 := z6.cell 0;have z61 := z6.cell 1;simp only [qG, qH, qC, qD] at z60 z61;clear z6;have hBB := (BB.setCell (p := ⟨X6, 0, none⟩) (by simp only []; omega) (.int .i64 0)).setCell (p := ⟨X6, 1, none⟩) (by simp only []; omega) (.slice none 0 0);have o_oE := (oE.setOther (X := X6) (fun _ => by omega) 0 (.int .i64 0)).setOther (X := X6) (fun _ => by omega) 1 (.slice none 0 0);have HR : Hid (tryL m C D ss s E U f false AD TL = (0, [], E, false)) := by (show _ = _; exact (show tryL m C D ss s E U f false AD TL = (0, [], E, false) from by simp [tryL, h1, HXX.out, h2, h3, h4, h5]))
      go_wp2
      exact bodyPost_ret (v := .tuple #[resV 0 none 0 0, .slice ea 3 ecap, .bool false]) (by simp [results, Tryz.results41, go_sem, z60, z61]) rfl (by rw [HR.out]; unfold LocD; exact ⟨none, 0, 0, 0, ea, 3, ecap, EB, rfl, rfl, HE3.out, hBB, OwnX.nil _ _ 0, o_oE, fun h => absurd h (by omega), fun _ => by omega, fun h _ => absurd h (by omega)⟩)
     have HQ : Hid (tryL m C D ss s E U f false AD TL = (1, TL, XX, true)) := by (show _ = _; simp [tryL, h1, HXX.out, h2, h3, h4, h5])
     clear h1 h2 h3 h4 h5
     go_upto_region 12 with fail
     have lX6 := q6.lt;have lYS := oS.lt (by omega);refine wp_region_ends (fun X => X.cell? ⟨X3, 0, none⟩ = some (.slice a 3 cap) /\ X.cell? ⟨X3, 1, none⟩ = some (.slice c m cap') /\ X.cell? ⟨X3, 2, none⟩ = some (.slice (some ⟨G, 0, none⟩) N pc) /\ X.cell? ⟨X3, 3, none⟩ = some (.int .i64 s) /\ X.cell? ⟨X3, 4, none⟩ = some (.slice e 3 ec) /\ X.cell? ⟨X3, 5, none⟩ = some (.slice u 2 uc) /\ X.cell? ⟨X4, 0, none⟩ = some (.slice ga G0 gc) /\ X.cell? ⟨X4, 1, none⟩ = some (.slice aa 3 ac) /\ X.cell? ⟨X4, 2, none⟩ = some (.slice ta T tc) /\ X.cell? ⟨X4, 3, none⟩ = some (.bool false) /\ X.cell? ⟨X10, 0, none⟩ = some (.slice a 3 cap) /\ X.cell? ⟨X10, 1, none⟩ = some (.slice c m cap') /\ X.cell? ⟨X10, 2, none⟩ = some (.slice (some ⟨G, 0, none⟩) N pc) /\ X.cell? ⟨X10, 3, none⟩ = some (.int .i64 s) /\ X.cell? ⟨X10, 4, none⟩ = some (.slice ya 3 ycap) /\ X.cell? ⟨X10, 5, none⟩ = some (.slice u 2 uc)) (fun _ => True) 13 (by kernel_rfl) ?_;have dr : Below w10.heap.size w10 w10.drew := (Below.refl _ _).drew;replace BB := btr BB dr;replace hv := hv.below dr;replace hp := hp.below dr;replace RA := RA.below dr;replace oA := oA.below dr;replace oS := oS.below dr;replace hv2 := hv2.below dr;replace q3 := q3.below dr;replace q4 := q4.below dr;replace q6 := q6.below dr;replace q10 := q10.below dr;clear dr;have szV : w10.drew.heap.size = w10.heap.size := rfl;rw [<- szV] at lX6 lYS;clear szV;generalize w10.drew = V11 at hv hp RA oA oS hv2 q3 q4 q6 q10 BB lX6 lYS ⊢
     have hSS : (V11.cell? ⟨X3, 0, none⟩ = some (.slice a 3 cap) /\ V11.cell? ⟨X3, 1, none⟩ = some (.slice c m cap') /\ V11.cell? ⟨X3, 2, none⟩ = some (.slice (some ⟨G, 0, none⟩) N pc) /\ V11.cell? ⟨X3, 3, none⟩ = some (.int .i64 s) /\ V11.cell? ⟨X3, 4, none⟩ = some (.slice e 3 ec) /\ V11.cell? ⟨X3, 5, none⟩ = some (.slice u 2 uc) /\ V11.cell? ⟨X4, 0, none⟩ = some (.slice ga G0 gc) /\ V11.cell? ⟨X4, 1, none⟩ = some (.slice aa 3 ac) /\ V11.cell? ⟨X4, 2, none⟩ = some (.slice ta T tc) /\ V11.cell? ⟨X4, 3, none⟩ = some (.bool false) /\ V11.cell? ⟨X10, 0, none⟩ = some (.slice a 3 cap) /\ V11.cell? ⟨X10, 1, none⟩ = some (.slice c m cap') /\ V11.cell? ⟨X10, 2, none⟩ = some (.slice (some ⟨G, 0, none⟩) N pc) /\ V11.cell? ⟨X10, 3, none⟩ = some (.int .i64 s) /\ V11.cell? ⟨X10, 4, none⟩ = some (.slice ya 3 ycap) /\ V11.cell? ⟨X10, 5, none⟩ = some (.slice u 2 uc)) /\ True := ⟨⟨q3.cell 0, q3.cell 1, q3.cell 2, q3.cell 3, q3.cell 4, q3.cell 5, q4.cell 0, q4.cell 1, q4.cell 2, q4.cell 3, q10.cell 0, q10.cell 1, q10.cell 2, q10.cell 3, q10.cell 4, q10.cell 5⟩, trivial⟩
     refine tkl 0 rfl hSS ?_;refine tkl 1 rfl hSS ?_;refine tkl 2 rfl hSS ?_;simp only [Act.put, qB, qD, qC, qI, qF, qE];refine tkl 3 rfl hSS ?_;refine tkl 4 rfl hSS ?_;refine tkl 5 rfl hSS ?_;simp only [Act.put, qB, qD, qC, qI, qF, qE];refine tkl 6 rfl hSS ?_;refine tkl 9 rfl hSS ?_;refine tkl 10 rfl hSS ?_;simp only [Act.put, qB, qD, qC, qI, qF, qE];refine wo1 7 rfl fun K hK => ?_;go_simp;refine (formsAt_any ts C U RA.ht RA.t (by have := RA.zt; omega) HOU.out.2 hv.hC hv.hU hb.bC hb.bU).mono ?_;rintro ee w12 ⟨vT, rfl, jT⟩;rw [HTL.out] at jT;obtain ⟨xt, xtc, TB, rfl, oT, loT⟩ := jT.ownx HLT.out;have bT := jT.b;clear jT;replace BB := btr BB bT;replace hv := hv.below bT;replace hp := hp.below bT;replace RA := RA.below bT;replace oA := oA.below bT;replace oS := oS.below bT;replace hv2 := hv2.below bT;replace q3 := q3.below bT;replace q4 := q4.below bT;replace q6 := q6.below bT;replace q10 := q10.below bT;clear bT;clear hSS
     have hSS : (w12.cell? ⟨X3, 0, none⟩ = some (.slice a 3 cap) /\ w12.cell? ⟨X3, 1, none⟩ = some (.slice c m cap') /\ w12.cell? ⟨X3, 2, none⟩ = some (.slice (some ⟨G, 0, none⟩) N pc) /\ w12.cell? ⟨X3, 3, none⟩ = some (.int .i64 s) /\ w12.cell? ⟨X3, 4, none⟩ = some (.slice e 3 ec) /\ w12.cell? ⟨X3, 5, none⟩ = some (.slice u 2 uc) /\ w12.cell? ⟨X4, 0, none⟩ = some (.slice ga G0 gc) /\ w12.cell? ⟨X4, 1, none⟩ = some (.slice aa 3 ac) /\ w12.cell? ⟨X4, 2, none⟩ = some (.slice ta T tc) /\ w12.cell? ⟨X4, 3, none⟩ = some (.bool false) /\ w12.cell? ⟨X10, 0, none⟩ = some (.slice a 3 cap) /\ w12.cell? ⟨X10, 1, none⟩ = some (.slice c m cap') /\ w12.cell? ⟨X10, 2, none⟩ = some (.slice (some ⟨G, 0, none⟩) N pc) /\ w12.cell? ⟨X10, 3, none⟩ = some (.int .i64 s) /\ w12.cell? ⟨X10, 4, none⟩ = some (.slice ya 3 ycap) /\ w12.cell? ⟨X10, 5, none⟩ = some (.slice u 2 uc)) /\ True := ⟨⟨q3.cell 0, q3.cell 1, q3.cell 2, q3.cell 3, q3.cell 4, q3.cell 5, q4.cell 0, q4.cell 1, q4.cell 2, q4.cell 3, q10.cell 0, q10.cell 1, q10.cell 2, q10.cell 3, q10.cell 4, q10.cell 5⟩, trivial⟩
     (try dsimp only);refine kk0 hK (hSS.1) ?_;refine tkl 8 rfl hSS ?_;simp only [Act.put, qB, qD, qC, qI, qF, qE];have z0 := q6.cell 0;have z1 := q6.cell 1;simp only [qG, qH] at z0 z1;have y0 := q6.free 0;have y1 := q6.free 1;have l6 := q6.lt;refine wo1 11 rfl fun K hK => ?_;go_simp;have hBB := (BB.setCell (p := ⟨X6, 0, none⟩) (by simp only []; omega) (.int .i64 1)).setCell (p := ⟨X6, 1, none⟩) (by simp only []; omega) (.slice xt T xtc);have q33 := (q3.setOther (B' := X6) (by omega) 0 (.int .i64 1)).setOther (B' := X6) (by omega) 1 (.slice xt T xtc);have q44 := (q4.setOther (B' := X6) (by omega) 0 (.int .i64 1)).setOther (B' := X6) (by omega) 1 (.slice xt T xtc);have q1010 := (q10.setOther (B' := X6) (by omega) 0 (.int .i64 1)).setOther (B' := X6) (by omega) 1 (.slice xt T xtc);have oS2 := (oS.setOther (X := X6) (fun _ => by omega) 0 (.int .i64 1)).setOther (X := X6) (fun _ => by omega) 1 (.slice xt T xtc);have oT2 := (oT.setOther (X := X6) (fun h => by have := loT h; omega) 0 (.int .i64 1)).setOther (X := X6) (fun h => by have := loT h; omega) 1 (.slice xt T xtc);have z6 := (q6.set 0 (.int .i64 1)).set 1 (.slice xt T xtc);have z60 := z6.cell 0;have z61 := z6.cell 1;simp only [qG, qH, qC, qD] at z60 z61
     have hS2 : (((w12.setCell ⟨X6, 0, none⟩ (.int .i64 1)).setCell ⟨X6, 1, none⟩ (.slice xt T xtc)).cell? ⟨X3, 0, none⟩ = some (.slice a 3 cap) /\ ((w12.setCell ⟨X6, 0, none⟩ (.int .i64 1)).setCell ⟨X6, 1, none⟩ (.slice xt T xtc)).cell? ⟨X3, 1, none⟩ = some (.slice c m cap') /\ ((w12.setCell ⟨X6, 0, none⟩ (.int .i64 1)).setCell ⟨X6, 1, none⟩ (.slice xt T xtc)).cell? ⟨X3, 2, none⟩ = some (.slice (some ⟨G, 0, none⟩) N pc) /\ ((w12.setCell ⟨X6, 0, none⟩ (.int .i64 1)).setCell ⟨X6, 1, none⟩ (.slice xt T xtc)).cell? ⟨X3, 3, none⟩ = some (.int .i64 s) /\ ((w12.setCell ⟨X6, 0, none⟩ (.int .i64 1)).setCell ⟨X6, 1, none⟩ (.slice xt T xtc)).cell? ⟨X3, 4, none⟩ = some (.slice e 3 ec) /\ ((w12.setCell ⟨X6, 0, none⟩ (.int .i64 1)).setCell ⟨X6, 1, none⟩ (.slice xt T xtc)).cell? ⟨X3, 5, none⟩ = some (.slice u 2 uc) /\ ((w12.setCell ⟨X6, 0, none⟩ (.int .i64 1)).setCell ⟨X6, 1, none⟩ (.slice xt T xtc)).cell? ⟨X4, 0, none⟩ = some (.slice ga G0 gc) /\ ((w12.setCell ⟨X6, 0, none⟩ (.int .i64 1)).setCell ⟨X6, 1, none⟩ (.slice xt T xtc)).cell? ⟨X4, 1, none⟩ = some (.slice aa 3 ac) /\ ((w12.setCell ⟨X6, 0, none⟩ (.int .i64 1)).setCell ⟨X6, 1, none⟩ (.slice xt T xtc)).cell? ⟨X4, 2, none⟩ = some (.slice ta T tc) /\ ((w12.setCell ⟨X6, 0, none⟩ (.int .i64 1)).setCell ⟨X6, 1, none⟩ (.slice xt T xtc)).cell? ⟨X4, 3, none⟩ = some (.bool false) /\ ((w12.setCell ⟨X6, 0, none⟩ (.int .i64 1)).setCell ⟨X6, 1, none⟩ (.slice xt T xtc)).cell? ⟨X10, 0, none⟩ = some (.slice a 3 cap) /\ ((w12.setCell ⟨X6, 0, none⟩ (.int .i64 1)).setCell ⟨X6, 1, none⟩ (.slice xt T xtc)).cell? ⟨X10, 1, none⟩ = some (.slice c m cap') /\ ((w12.setCell ⟨X6, 0, none⟩ (.int .i64 1)).setCell ⟨X6, 1, none⟩ (.slice xt T xtc)).cell? ⟨X10, 2, none⟩ = some (.slice (some ⟨G, 0, none⟩) N pc) /\ ((w12.setCell ⟨X6, 0, none⟩ (.int .i64 1)).setCell ⟨X6, 1, none⟩ (.slice xt T xtc)).cell? ⟨X10, 3, none⟩ = some (.int .i64 s) /\ ((w12.setCell ⟨X6, 0, none⟩ (.int .i64 1)).setCell ⟨X6, 1, none⟩ (.slice xt T xtc)).cell? ⟨X10, 4, none⟩ = some (.slice ya 3 ycap) /\ ((w12.setCell ⟨X6, 0, none⟩ (.int .i64 1)).setCell ⟨X6, 1, none⟩ (.slice xt T xtc)).cell? ⟨X10, 5, none⟩ = some (.slice u 2 uc)) /\ True := ⟨⟨q33.cell 0, q33.cell 1, q33.cell 2, q33.cell 3, q33.cell 4, q33.cell 5, q44.cell 0, q44.cell 1, q44.cell 2, q44.cell 3, q1010.cell 0, q1010.cell 1, q1010.cell 2, q1010.cell 3, q1010.cell 4, q1010.cell 5⟩, trivial⟩
     refine kk0 hK (hS2.1) ?_;clear hK K hSS z0 z1 y0 y1;refine wo1 12 rfl fun K hK => ?_;go_simp;refine kk0 hK (hS2.1) ?_;refine wo1 13 rfl fun K hK => ?_;go_simp;refine kk0 hK (hS2.1) ?_;refine wod ?_ _;clear hS2 q33 q44 q1010
     go_wp2
     exact bodyPost_ret (v := .tuple #[resV 1 xt T xtc, .slice ya 3 ycap, .bool true]) (by simp [results, Tryz.results41, go_sem, z60, z61]) rfl (by rw [HQ.out]; unfold LocD; exact ⟨xt, T, xtc, TB, ya, 3, ycap, YB, rfl, HLT.out, HX3.out, hBB, oT2, oS2, fun h => by have := loT h; omega, fun _ => by omega, fun h _ => by have := loT h; omega⟩)
    obtain ⟨g3_0, g3_1, g3_2, g3_3, g3_4, g3_5⟩ := q3.c6;obtain ⟨g4_0, g4_1, g4_2, g4_3⟩ := q4.c4;obtain ⟨g6_0, g6_1⟩ := q6.c2;obtain ⟨g10_0, g10_1, g10_2, g10_3, g10_4, g10_5⟩ := q10.c6
    go_wp2_with fail
    have lX6 := q6.lt;refine (clone_any _ _ E hv.hE).mono ?_;rintro ee w10 ⟨vE, rfl, jE⟩;obtain ⟨ea, ecap, EB, rfl, oE, loE⟩ := jE.ownx HE3.out;have bE := jE.b;have loE2 := loE (by omega);have ltE := oE.lt (by omega);clear jE loE;clear g3_0 g3_1 g3_2 g3_3 g3_4 g3_5 g4_0 g4_1 g4_2 g4_3 g6_0 g6_1 g10_0 g10_1 g10_2 g10_3 g10_4 g10_5;replace BB := btr BB bE;replace hv := hv.below bE;replace hp := hp.below bE;replace RA := RA.below bE;replace oA := oA.below bE;replace oS := oS.below bE;replace hv2 := hv2.below bE;replace q3 := q3.below bE;replace q4 := q4.below bE;replace q6 := q6.below bE;replace q10 := q10.below bE;clear bE;obtain ⟨g6_0, g6_1⟩ := q6.c2;have f6_0 := q6.free 0;have f6_1 := q6.free 1;have l6 := q6.lt;have z6 := (q6.set 0 (.int .i64 0)).set 1 (.slice none 0 0);have z60 := z6.cell 0;have z61 := z6.cell 1;simp only [qG, qH, qC, qD] at z60 z61;clear z6;have hBB := (BB.setCell (p := ⟨X6, 0, none⟩) (by simp only []; omega) (.int .i64 0)).setCell (p := ⟨X6, 1, none⟩) (by simp only []; omega) (.slice none 0 0);have o_oE := (oE.setOther (X := X6) (fun _ => by omega) 0 (.int .i64 0)).setOther (X := X6) (fun _ => by omega) 1 (.slice none 0 0);have HR : Hid (tryL m C D ss s E U f false AD TL = (0, [], E, false)) := by (show _ = _; exact (show tryL m C D ss s E U f false AD TL = (0, [], E, false) from by simp [tryL, h1, HXX.out, h2, h3, h4]))
    go_wp2
    exact bodyPost_ret (v := .tuple #[resV 0 none 0 0, .slice ea 3 ecap, .bool false]) (by simp [results, Tryz.results41, go_sem, z60, z61]) rfl (by rw [HR.out]; unfold LocD; exact ⟨none, 0, 0, 0, ea, 3, ecap, EB, rfl, rfl, HE3.out, hBB, OwnX.nil _ _ 0, o_oE, fun h => absurd h (by omega), fun _ => by omega, fun h _ => absurd h (by omega)⟩)
   obtain ⟨g3_0, g3_1, g3_2, g3_3, g3_4, g3_5⟩ := q3.c6;obtain ⟨g4_0, g4_1, g4_2, g4_3⟩ := q4.c4;obtain ⟨g6_0, g6_1⟩ := q6.c2;obtain ⟨g10_0, g10_1, g10_2, g10_3, g10_4, g10_5⟩ := q10.c6
   go_wp2_with fail
   have lX6 := q6.lt;refine (clone_any _ _ E hv.hE).mono ?_;rintro ee w9 ⟨vE, rfl, jE⟩;obtain ⟨ea, ecap, EB, rfl, oE, loE⟩ := jE.ownx HE3.out;have bE := jE.b;have loE2 := loE (by omega);have ltE := oE.lt (by omega);clear jE loE;clear g3_0 g3_1 g3_2 g3_3 g3_4 g3_5 g4_0 g4_1 g4_2 g4_3 g6_0 g6_1 g10_0 g10_1 g10_2 g10_3 g10_4 g10_5;replace BB := btr BB bE;replace hv := hv.below bE;replace hp := hp.below bE;replace RA := RA.below bE;replace oA := oA.below bE;replace oS := oS.below bE;replace hv2 := hv2.below bE;replace q3 := q3.below bE;replace q4 := q4.below bE;replace q6 := q6.below bE;replace q10 := q10.below bE;clear bE;obtain ⟨g6_0, g6_1⟩ := q6.c2;have f6_0 := q6.free 0;have f6_1 := q6.free 1;have l6 := q6.lt;have z6 := (q6.set 0 (.int .i64 3)).set 1 (.slice none 0 0);have z60 := z6.cell 0;have z61 := z6.cell 1;simp only [qG, qH, qC, qD] at z60 z61;clear z6;have hBB := (BB.setCell (p := ⟨X6, 0, none⟩) (by simp only []; omega) (.int .i64 3)).setCell (p := ⟨X6, 1, none⟩) (by simp only []; omega) (.slice none 0 0);have o_oE := (oE.setOther (X := X6) (fun _ => by omega) 0 (.int .i64 3)).setOther (X := X6) (fun _ => by omega) 1 (.slice none 0 0);have HR : Hid (tryL m C D ss s E U f false AD TL = (3, [], E, true)) := by (show _ = _; exact (show tryL m C D ss s E U f false AD TL = (3, [], E, true) from by simp [tryL, h1, HXX.out, h2, h3]))
   go_wp2
   exact bodyPost_ret (v := .tuple #[resV 3 none 0 0, .slice ea 3 ecap, .bool true]) (by simp [results, Tryz.results41, go_sem, z60, z61]) rfl (by rw [HR.out]; unfold LocD; exact ⟨none, 0, 0, 0, ea, 3, ecap, EB, rfl, rfl, HE3.out, hBB, OwnX.nil _ _ 0, o_oE, fun h => absurd h (by omega), fun _ => by omega, fun h _ => absurd h (by omega)⟩)
  go_wp2_with fail
  have lX6 := q6.lt;refine (clone_any _ _ E hv.hE).mono ?_;rintro ee w7 ⟨vE, rfl, jE⟩;obtain ⟨ea, ecap, EB, rfl, oE, loE⟩ := jE.ownx HE3.out;have bE := jE.b;have loE2 := loE (by omega);have ltE := oE.lt (by omega);clear jE loE;clear g3_0 g3_1 g3_2 g3_3 g3_4 g3_5 g4_0 g4_1 g4_2 g4_3 g6_0 g6_1 g10_0 g10_1 g10_2 g10_3 g10_4 g10_5;replace BB := btr BB bE;replace hv := hv.below bE;replace hp := hp.below bE;replace RA := RA.below bE;replace oA := oA.below bE;replace oS := oS.below bE;replace hv2 := hv2.below bE;replace q3 := q3.below bE;replace q4 := q4.below bE;replace q6 := q6.below bE;replace q10 := q10.below bE;clear bE;obtain ⟨g6_0, g6_1⟩ := q6.c2;have f6_0 := q6.free 0;have f6_1 := q6.free 1;have l6 := q6.lt;have z6 := (q6.set 0 (.int .i64 0)).set 1 (.slice none 0 0);have z60 := z6.cell 0;have z61 := z6.cell 1;simp only [qG, qH, qC, qD] at z60 z61;clear z6;have hBB := (BB.setCell (p := ⟨X6, 0, none⟩) (by simp only []; omega) (.int .i64 0)).setCell (p := ⟨X6, 1, none⟩) (by simp only []; omega) (.slice none 0 0);have o_oE := (oE.setOther (X := X6) (fun _ => by omega) 0 (.int .i64 0)).setOther (X := X6) (fun _ => by omega) 1 (.slice none 0 0);have HR : Hid (tryL m C D ss s E U f false AD TL = (0, [], E, false)) := by (show _ = _; exact (show tryL m C D ss s E U f false AD TL = (0, [], E, false) from by simp [tryL, h1]))
  go_wp2
  exact bodyPost_ret (v := .tuple #[resV 0 none 0 0, .slice ea 3 ecap, .bool false]) (by simp [results, Tryz.results41, go_sem, z60, z61]) rfl (by rw [HR.out]; unfold LocD; exact ⟨none, 0, 0, 0, ea, 3, ecap, EB, rfl, rfl, HE3.out, hBB, OwnX.nil _ _ 0, o_oE, fun h => absurd h (by omega), fun _ => by omega, fun h _ => absurd h (by omega)⟩)
 go_enter Tryz.func41, Tryz.ntmps41
 have al := (Below.refl (w).heap.size (w)).alloc (qJ _) (.cells #[.slice a 3 cap, .slice c m cap', .slice (some ⟨G, 0, none⟩) N pc, .int .i64 s, .slice e 3 ec, .slice u 2 uc] 63);have BB := al;replace hv := hv.below al;replace hp := hp.below al;replace RA := RA.below al;clear al;have q3 := Cel.new (w) [.slice a 3 cap, .slice c m cap', .slice (some ⟨G, 0, none⟩) N pc, .int .i64 s, .slice e 3 ec, .slice u 2 uc] 63;have al := (Below.refl ((w).alloc (.cells #[.slice a 3 cap, .slice c m cap', .slice (some ⟨G, 0, none⟩) N pc, .int .i64 s, .slice e 3 ec, .slice u 2 uc] 63)).heap.size ((w).alloc (.cells #[.slice a 3 cap, .slice c m cap', .slice (some ⟨G, 0, none⟩) N pc, .int .i64 s, .slice e 3 ec, .slice u 2 uc] 63))).alloc (qJ _) (.cells #[.slice ga G0 gc, .slice aa A ac, .slice ta T tc, .bool true] 68);replace BB := btr BB al;replace hv := hv.below al;replace hp := hp.below al;replace RA := RA.below al;replace q3 := q3.below al;clear al;have q4 := Cel.new ((w).alloc (.cells #[.slice a 3 cap, .slice c m cap', .slice (some ⟨G, 0, none⟩) N pc, .int .i64 s, .slice e 3 ec, .slice u 2 uc] 63)) [.slice ga G0 gc, .slice aa A ac, .slice ta T tc, .bool true] 68;simp only [qA] at q4
 have al := (Below.refl (((w).alloc (.cells #[.slice a 3 cap, .slice c m cap', .slice (some ⟨G, 0, none⟩) N pc, .int .i64 s, .slice e 3 ec, .slice u 2 uc] 63)).alloc (.cells #[.slice ga G0 gc, .slice aa A ac, .slice ta T tc, .bool true] 68)).heap.size (((w).alloc (.cells #[.slice a 3 cap, .slice c m cap', .slice (some ⟨G, 0, none⟩) N pc, .int .i64 s, .slice e 3 ec, .slice u 2 uc] 63)).alloc (.cells #[.slice ga G0 gc, .slice aa A ac, .slice ta T tc, .bool true] 68))).alloc (qJ _) (.cells #[.int .i64 0, .slice none 0 0] 29);replace BB := btr BB al;replace hv := hv.below al;replace hp := hp.below al;replace RA := RA.below al;replace q3 := q3.below al;replace q4 := q4.below al;clear al;have q6 := Cel.new (((w).alloc (.cells #[.slice a 3 cap, .slice c m cap', .slice (some ⟨G, 0, none⟩) N pc, .int .i64 s, .slice e 3 ec, .slice u 2 uc] 63)).alloc (.cells #[.slice ga G0 gc, .slice aa A ac, .slice ta T tc, .bool true] 68)) [.int .i64 0, .slice none 0 0] 29;simp only [qA] at q6;obtain ⟨g3_0, g3_1, g3_2, g3_3, g3_4, g3_5⟩ := q3.c6;obtain ⟨g4_0, g4_1, g4_2, g4_3⟩ := q4.c4;obtain ⟨g6_0, g6_1⟩ := q6.c2
 go_wp2_with fail
 generalize (((w).alloc (.cells #[.slice a 3 cap, .slice c m cap', .slice (some ⟨G, 0, none⟩) N pc, .int .i64 s, .slice e 3 ec, .slice u 2 uc] 63)).alloc (.cells #[.slice ga G0 gc, .slice aa A ac, .slice ta T tc, .bool true] 68)).alloc (.cells #[.int .i64 0, .slice none 0 0] 29) = W1 at hv hp RA q3 q4 q6 BB g3_0 g3_1 g3_2 g3_3 g3_4 g3_5 g4_0 g4_1 g4_2 g4_3 g6_0 g6_1 ⊢;obtain ⟨X6, hX6⟩ : ∃ x, x = w.heap.size + 1 + 1 := ⟨_, rfl⟩
 rw [<- hX6];rw [<- hX6] at q6 g6_0 g6_1;have loX6 : w.heap.size + 1 + 1 <= X6 := by omega
 have upX6 : X6 <= w.heap.size + 1 + 1 := by omega
 clear hX6;obtain ⟨X4, hX4⟩ : ∃ x, x = w.heap.size + 1 := ⟨_, rfl⟩
 rw [<- hX4];rw [<- hX4] at q4 g4_0 g4_1 g4_2 g4_3;have loX4 : w.heap.size + 1 <= X4 := by omega
 have upX4 : X4 <= w.heap.size + 1 := by omega
 clear hX4;obtain ⟨X3, hX3⟩ : ∃ x, x = w.heap.size := ⟨_, rfl⟩
 rw [<- hX3];rw [<- hX3] at q3 g3_0 g3_1 g3_2 g3_3 g3_4 g3_5;have loX3 : w.heap.size <= X3 := by omega
 have upX3 : X3 <= w.heap.size := by omega
 clear hX3;have lX6 := q6.lt;refine (clone_any _ _ E hv.hE).mono ?_;rintro ee w2 ⟨vE, rfl, jE⟩;obtain ⟨ea, ecap, EB, rfl, oE, loE⟩ := jE.ownx HE3.out;have bE := jE.b;have loE2 := loE (by omega);have ltE := oE.lt (by omega);clear jE loE;clear g3_0 g3_1 g3_2 g3_3 g3_4 g3_5 g4_0 g4_1 g4_2 g4_3 g6_0 g6_1;replace BB := btr BB bE;replace hv := hv.below bE;replace hp := hp.below bE;replace RA := RA.below bE;replace q3 := q3.below bE;replace q4 := q4.below bE;replace q6 := q6.below bE;clear bE;obtain ⟨g6_0, g6_1⟩ := q6.c2;have f6_0 := q6.free 0;have f6_1 := q6.free 1;have l6 := q6.lt;have z6 := (q6.set 0 (.int .i64 2)).set 1 (.slice none 0 0);have z60 := z6.cell 0;have z61 := z6.cell 1;simp only [qG, qH, qC, qD] at z60 z61;clear z6;have hBB := (BB.setCell (p := ⟨X6, 0, none⟩) (by simp only []; omega) (.int .i64 2)).setCell (p := ⟨X6, 1, none⟩) (by simp only []; omega) (.slice none 0 0);have o_oE := (oE.setOther (X := X6) (fun _ => by omega) 0 (.int .i64 2)).setOther (X := X6) (fun _ => by omega) 1 (.slice none 0 0);have HR : Hid (tryL m C D ss s E U f true AD TL = (2, [], E, true)) := by (show _ = _; exact (show tryL m C D ss s E U f true AD TL = (2, [], E, true) from rfl))
 go_wp2
 exact bodyPost_ret (v := .tuple #[resV 2 none 0 0, .slice ea 3 ecap, .bool true]) (by simp [results, Tryz.results41, go_sem, z60, z61]) rfl (by rw [HR.out]; unfold LocD; exact ⟨none, 0, 0, 0, ea, 3, ecap, EB, rfl, rfl, HE3.out, hBB, OwnX.nil _ _ 0, o_oE, fun h => absurd h (by omega), fun _ => by omega, fun h _ => absurd h (by omega)⟩)
end Go.Proofs.YtdaiaohlkdolmaaGreat
