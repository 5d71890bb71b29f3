/-
  What a site comes to alone, over plain lists; which pots are pinned, and whether some pot is, or may be, over (impl.addsToPinned, siteView.somePot). Of a view that is ok.
-/
import Derived.Test.YtfmpcihghlnlnaaGreatDoorQm
import Derived.Test.YtfmpcihghlnlnaaGreatDoorQn
namespace Go.Proofs.YtfmpcihghlnlnaaGreatDoor
open Go.RowKit Go.Deep
open Nat renaming le_refl → qA
set_option linter.unusedVariables false
set_option linter.unusedSimpArgs false
set_option maxRecDepth 100000
set_option maxHeartbeats 25600000
def potB (m : Nat) (C D : List Int) (ss : List IV) (s : Int) (x U : List Int) (v : Nat) : Int × Int × Bool := bnds m C D ss s x (potX v).1 (potX v).2.1 (potX v).2.2 U
def over1 (b : Int × Int × Bool) : Bool := decide (10000 < b.1) || decide (b.2.1 < -10000)
def may1 (b : Int × Int × Bool) : Bool := decide (b.1 < -10000) || decide (10000 < b.2.1)
def pinned (f : Nat -> Bool) (x : List Int) : Bool := (List.range 3).any fun v => f v && (x[v]?.getD 0 != 0)
def tryL (m : Nat) (C D : List Int) (ss : List IV) (s : Int) (E U : List Int) (f : Nat -> Bool) (st : Bool) (AD TL : List Int) : Int × List Int × List Int × Bool :=
 if st then (2, [], E, true) else
 if pinned f AD || !okN 3 20000 3 (List.zipWith (· + ·) E AD) then (0, [], E, false) else
 if (List.range 3).any (fun v => over1 (potB m C D ss s (List.zipWith (· + ·) E AD) U v)) then (3, [], E, true) else
 if (List.range 3).any (fun v => may1 (potB m C D ss s (List.zipWith (· + ·) E AD) U v)) || !keepsB (D[s.toNat]?.getD 0) (List.zipWith (· + ·) E AD) ss then (0, [], E, false) else
 (1, TL, List.zipWith (· + ·) E AD, true)
def tryR (m : Nat) (C D : List Int) (ss : List IV) (s : Int) (E U : List Int) (f : Nat -> Bool) (r : RowM) : Int × List Int × List Int × Bool := tryL m C D ss s E U f r.stop (r.adds.map (atX C U)) (r.tells.map (atX C U))
def LocD (w w' : World) (r : Ending) (x : Int × List Int × List Int × Bool) : Prop :=
 ∃ a n cap B1 b k cap' B2, r = .returned (.tuple #[resV x.1 a n cap, .slice b k cap', .bool x.2.2.2]) /\ x.2.1.length = n /\ x.2.2.1.length = k /\ Below w.heap.size w w' /\ OwnX w' a B1 n x.2.1 /\ OwnX w' b B2 k x.2.2.1 /\ (0 < n -> w.heap.size <= B1) /\ (0 < k -> w.heap.size <= B2) /\ (0 < n -> 0 < k -> B1 ≠ B2)
theorem pot_fitP : ∀ k, k < 3 -> fitX 10000000 (way0.pots[k]?.getD ([], [], 0)) := fun k hk => (WayOk.start.pf k hk).mono (by have := wb_six (n := 0) (by omega); simp [wb] at *)
theorem any3 (p : Nat -> Bool) : (List.range 3).any p = (p 0 || (p 1 || (p 2 || false))) := rfl
theorem any_take {p : Nat -> Bool} {k : Nat} (hk : k < 3) (h : ∀ j, j < k -> p j = false) (h1 : p k = true) : (List.range 3).any p = true := List.any_eq_true.2 ⟨k, List.mem_range.2 hk, h1⟩
theorem any_none {p : Nat -> Bool} (h : ∀ j, j < 3 -> p j = false) : (List.range 3).any p = false := by
 rw [any3, h 0 (by omega), h 1 (by omega), h 2 (by omega)]; rfl
theorem ipin_any {G cg : Nat} (f : Nat -> Bool) {x : Option Addr} {cx : Nat} (X : List Int) {w : World} (hf : OwnBB w G f) (hX : Ints w x 3 X) :
  Calls Tryz.prog 80 #[.slice (some ⟨G, 0, none⟩) 3 cg, .slice x 3 cx] w fun e w' => e = .returned (.bool (pinned f X)) /\ w' = w := by
 obtain ⟨xb, xo, rfl, hc⟩ := hX.pos (by omega);have HC : Hid (∀ i, i < 3 -> w.cell? ⟨xb, xo + i, none⟩ = some (.int .i64 (X.getD i 0))) := hc;have HF : Hid (OwnBB w G f) := hf;clear hc hf
 go_enter Tryz.func80, Tryz.ntmps80
 go_wp2_with fail
 go_loopw [9] (fun i wr => ∃ k : Nat, k <= 3 /\ i = .int .i64 k /\ (∀ j, j < k -> (f j && (X[j]?.getD 0 != 0)) = false) /\ wr = w) (fun i _ => 3 - (intOf i).toNat)
 case atStart => exact ⟨0, by omega, rfl, fun j hj => by omega, rfl⟩
 case round =>
  obtain ⟨k, hk, rfl, hz, rfl⟩ := hrel;have HZ : Hid _ := hz;clear hz
  by_cases hlt : k < 3
  ·have hk' : (k : Int) < 3 := by omega
   have hx := HC.out k hlt;rw [List.getD_eq_getElem?_getD] at hx;have hp := (HF.out.at (v := k) hlt).1;have HP : Hid (∀ b y : Bool, f k = b -> (X[k]?.getD 0 != 0) = y -> (f k && (X[k]?.getD 0 != 0)) = (b && y)) := fun b y e1 e2 => by rw [e1, e2]
   obtain ⟨b, hb⟩ : ∃ b, f k = b := ⟨_, rfl⟩
   obtain ⟨y, hy⟩ : ∃ y, X[k]?.getD 0 = y := ⟨_, rfl⟩
   have HB : Hid (f k = b) := hb;have HY : Hid (X[k]?.getD 0 = y) := hy;rw [hb] at hp;rw [hy] at hx;clear hb hy HP
   cases b
   ·go_wp2
    go_roundw
    case rel => exact ⟨k + 1, by omega, by go_num, fun j hj => if h : j < k then HZ.out j h else by (obtain rfl : j = k := by omega); rw [HB.out]; rfl, by first | rfl | trivial⟩
    case measure => simp [intOf]; omega
   by_cases hy0 : y = 0
   ·have hy1 : (y != 0) = false := by simp [hy0]
    go_wp2
    go_roundw
    case rel => exact ⟨k + 1, by omega, by go_num, fun j hj => if h : j < k then HZ.out j h else by (obtain rfl : j = k := by omega); rw [HB.out, HY.out]; simp [hy0], by first | rfl | trivial⟩
    case measure => simp [intOf]; omega
   have hy1 : (y != 0) = true := by simp [hy0]
   go_wp2
   go_ret
   exact ⟨by (show Ending.returned (.bool true) = _); rw [show pinned f X = true from any_take hlt HZ.out (by rw [HB.out, HY.out]; simp [hy0])], rfl⟩
  have hk' : ¬ (k : Int) < 3 := by omega
  go_wp2
  go_ret
  exact ⟨by (show Ending.returned (.bool false) = _); rw [show pinned f X = false from any_none (fun j hj => HZ.out j (by omega))], rfl⟩
theorem iover_any (x y : Int) (b : Bool) {w : World} : Calls Tryz.prog 126 #[.agg #[.int .i64 x, .int .i64 y, .bool b]] w fun e w' => e = .returned (.bool (over1 (x, y, b))) /\ Below w.heap.size w w' := by
 have al := (Below.refl w.heap.size w).alloc (qA _) (.cells #[.int .i64 x, .int .i64 y, .bool b] 177)
 go_enter Tryz.func126, Tryz.ntmps126
 by_cases h1 : 10000 < x
 ·have h2 : x > 10000 := h1
  go_wp2
  go_ret
  exact ⟨by simp [over1, h1] <;> omega, al⟩
 have h2 : ¬ x > 10000 := h1
 go_wp2
 go_ret
 exact ⟨by simp [over1, h1] <;> omega, al⟩
theorem imay1_any (x y : Int) (b : Bool) {w : World} : Calls Tryz.prog 127 #[.agg #[.int .i64 x, .int .i64 y, .bool b]] w fun e w' => e = .returned (.bool (may1 (x, y, b))) /\ Below w.heap.size w w' := by
 have al := (Below.refl w.heap.size w).alloc (qA _) (.cells #[.int .i64 x, .int .i64 y, .bool b] 177)
 go_enter Tryz.func127, Tryz.ntmps127
 by_cases h1 : x < -10000
 ·go_wp2
  go_ret
  exact ⟨by simp [may1, h1] <;> omega, al⟩
 go_wp2
 go_ret
 exact ⟨by simp [may1, h1] <;> omega, al⟩
theorem isover_any (a : Option Addr) (cap : Nat) (c : Option Addr) (m cap' : Nat) (G N pc : Nat) (s : Int) (e : Option Addr) (ec : Nat) (u : Option Addr) (uc : Nat) (C D E U : List Int) (ss : List IV) {w : World} (hv : Vw w a c m G e u C D E U ss) (hb : Vb m N C D E U ss) :
  Calls Tryz.prog 125 #[viewV a 3 cap c m cap' (some ⟨G, 0, none⟩) N pc s e 3 ec u 2 uc, .func (.func 126) #[] #[]] w fun r w' => r = .returned (.bool ((List.range 3).any fun v => over1 (potB m C D ss s E U v))) /\ Below w.heap.size w w' := by
 have al := (Below.refl w.heap.size w).alloc (qA _) (.cells #[.slice a 3 cap, .slice c m cap', .slice (some ⟨G, 0, none⟩) N pc, .int .i64 s, .slice e 3 ec, .slice u 2 uc] 136);have q0 := Cel.new w [.slice a 3 cap, .slice c m cap', .slice (some ⟨G, 0, none⟩) N pc, .int .i64 s, .slice e 3 ec, .slice u 2 uc] 136
 go_enter Tryz.func125, Tryz.ntmps125
 go_wp2_with fail
 refine (ipots_any).mono ?_;rintro ee w1 ⟨v, xs, rfl, jv⟩;obtain ⟨pa, cp, rfl, hP⟩ := jv.slice rfl;replace q0 := q0.below jv.b;have b1 := btr al jv.b;have HP : Hid (FormsAt w1 pa way0.pots) := hP;have HW : Hid (Vw w1 a c m G e u C D E U ss) := hv.below b1;clear hP al jv hv
 go_wp2_with fail
 go_loopw [9] (fun i wr => ∃ k : Nat, k <= 3 /\ i = .int .i64 k /\ (∀ j, j < k -> over1 (potB m C D ss s E U j) = false) /\ Below w1.heap.size w1 wr) (fun i _ => 3 - (intOf i).toNat)
 case atStart => exact ⟨0, by omega, rfl, fun j hj => by omega, Below.refl _ _⟩
 case round =>
  obtain ⟨k, hk, rfl, hz, bk⟩ := hrel;have HZ : Hid _ := hz;clear hz
  by_cases hlt : k < 3
  ·have hk' : (k : Int) < 3 := by omega
   obtain ⟨b, off, rfl, a', c', ca, cc, c0, c1, c2, iC, iD⟩ := (HP.out.keep bk) k (show k < way0.pots.length from hlt)
   have hg : way0.pots[k]?.getD ([], [], 0) = potX k := by
    match k, hlt with
    | 0, _ => rfl
    | 1, _ => rfl
    | 2, _ => rfl
   rw [hg] at c2 iC iD;have hfit := pot_fitP k hlt;rw [hg] at hfit;obtain ⟨lC, lD, bA, bB, bK1, bK2⟩ := hfit;have HB : Hid (potB m C D ss s E U k = bnds m C D ss s E (potX k).1 (potX k).2.1 (potX k).2.2 U) := rfl;generalize potX k = g at c2 iC iD lC lD bA bB bK1 bK2 HB;obtain ⟨gC, gD, gK⟩ := g;dsimp only at c2 iC iD lC lD bA bB bK1 bK2 HB;have bz := (Below.refl wr.heap.size wr).alloc (qA _) (.cells #[.slice a' 3 ca, .slice c' 2 cc, .int .i64 gK] 106);have fz := Cel.new wr [.slice a' 3 ca, .slice c' 2 cc, .int .i64 gK] 106;have bzy := btr bk bz;have m0 := q0.below bzy;have n0 := m0.cell 0;have n1 := m0.cell 1;have n2 := m0.cell 2;have n3 := m0.cell 3;have n4 := m0.cell 4;have n5 := m0.cell 5;have z0 := fz.cell 0;have z1 := fz.cell 1;have z2 := fz.cell 2;simp only [List.getElem?_cons_zero, List.getElem?_cons_succ] at n0 n1 n2 n3 n4 n5 z0 z1 z2
   go_wp2_with fail
   obtain ⟨Z, hZ⟩ : ∃ Z, Z = wr.alloc (.cells #[.slice a' 3 ca, .slice c' 2 cc, .int .i64 gK] 106) := ⟨_, rfl⟩
   rw [<- hZ] at bz bzy ⊢;clear hZ c0 c1 c2 m0 n0 n1 n2 n3 n4 n5 z0 z1 z2 fz;have vZ := HW.out.below bzy;refine (vbounds_any a cap c m cap' (some ⟨G, 0, none⟩) N pc s e ec u uc a' ca c' cc gK C D E U gC gD ss Z vZ.hC vZ.hD vZ.hE vZ.hU (iC.below bz) (iD.below bz) hb.hN vZ.isg hb.hN1 hb.hm3 hb.bC hb.bE hb.bU bA bB ⟨bK1, bK2⟩ hb.bD).mono ?_;rintro ee w6 ⟨x, hx, rfl, b6⟩;have HX : Hid (potB m C D ss s E U k = x) := by show _ = _; rw [HB.out, hx]
   obtain ⟨lo, hi, kn⟩ := x;dsimp only;have bw := btr bzy b6;clear hx iC iD bz bzy vZ b6 lC lD bA bB bK1 bK2 HB
   go_wp2_with fail
   refine (iover_any lo hi kn).mono ?_;rintro ee w7 ⟨rfl, b7⟩;have b8 := btr bw b7;clear b7 bw
   cases hp : over1 (lo, hi, kn)
   ·go_wp2
    go_roundw
    case rel => exact ⟨k + 1, by omega, by go_num, fun j hj => if h : j < k then HZ.out j h else by (obtain rfl : j = k := by omega); rw [HX.out, hp], b8⟩
    case measure => simp [intOf]; omega
   go_wp2
   go_ret
   exact ⟨by (show Ending.returned (.bool true) = _); rw [any_take hlt HZ.out (by rw [HX.out, hp])], btr b1 b8⟩
  have hk' : ¬ (k : Int) < 3 := by omega
  go_wp2
  go_ret
  exact ⟨by (show Ending.returned (.bool false) = _); first | rw [any_none (fun j hj => HZ.out j (by omega))] | (rw [HZ.out 0 (by omega), HZ.out 1 (by omega), HZ.out 2 (by omega)]; rfl), btr b1 bk⟩
theorem ismay_any (a : Option Addr) (cap : Nat) (c : Option Addr) (m cap' : Nat) (G N pc : Nat) (s : Int) (e : Option Addr) (ec : Nat) (u : Option Addr) (uc : Nat) (C D E U : List Int) (ss : List IV) {w : World} (hv : Vw w a c m G e u C D E U ss) (hb : Vb m N C D E U ss) :
  Calls Tryz.prog 125 #[viewV a 3 cap c m cap' (some ⟨G, 0, none⟩) N pc s e 3 ec u 2 uc, .func (.func 127) #[] #[]] w fun r w' => r = .returned (.bool ((List.range 3).any fun v => may1 (potB m C D ss s E U v))) /\ Below w.heap.size w w' := by
 have al := (Below.refl w.heap.size w).alloc (qA _) (.cells #[.slice a 3 cap, .slice c m cap', .slice (some ⟨G, 0, none⟩) N pc, .int .i64 s, .slice e 3 ec, .slice u 2 uc] 136);have q0 := Cel.new w [.slice a 3 cap, .slice c m cap', .slice (some ⟨G, 0, none⟩) N pc, .int .i64 s, .slice e 3 ec, .slice u 2 uc] 136
 go_enter Tryz.func125, Tryz.ntmps125
 go_wp2_with fail
 refine (ipots_any).mono ?_;rintro ee w1 ⟨v, xs, rfl, jv⟩;obtain ⟨pa, cp, rfl, hP⟩ := jv.slice rfl;replace q0 := q0.below jv.b;have b1 := btr al jv.b;have HP : Hid (FormsAt w1 pa way0.pots) := hP;have HW : Hid (Vw w1 a c m G e u C D E U ss) := hv.below b1;clear hP al jv hv
 go_wp2_with fail
 go_loopw [9] (fun i wr => ∃ k : Nat, k <= 3 /\ i = .int .i64 k /\ (∀ j, j < k -> may1 (potB m C D ss s E U j) = false) /\ Below w1.heap.size w1 wr) (fun i _ => 3 - (intOf i).toNat)
 case atStart => exact ⟨0, by omega, rfl, fun j hj => by omega, Below.refl _ _⟩
 case round =>
  obtain ⟨k, hk, rfl, hz, bk⟩ := hrel;have HZ : Hid _ := hz;clear hz
  by_cases hlt : k < 3
  ·have hk' : (k : Int) < 3 := by omega
   obtain ⟨b, off, rfl, a', c', ca, cc, c0, c1, c2, iC, iD⟩ := (HP.out.keep bk) k (show k < way0.pots.length from hlt)
   have hg : way0.pots[k]?.getD ([], [], 0) = potX k := by
    match k, hlt with
    | 0, _ => rfl
    | 1, _ => rfl
    | 2, _ => rfl
   rw [hg] at c2 iC iD;have hfit := pot_fitP k hlt;rw [hg] at hfit;obtain ⟨lC, lD, bA, bB, bK1, bK2⟩ := hfit;have HB : Hid (potB m C D ss s E U k = bnds m C D ss s E (potX k).1 (potX k).2.1 (potX k).2.2 U) := rfl;generalize potX k = g at c2 iC iD lC lD bA bB bK1 bK2 HB;obtain ⟨gC, gD, gK⟩ := g;dsimp only at c2 iC iD lC lD bA bB bK1 bK2 HB;have bz := (Below.refl wr.heap.size wr).alloc (qA _) (.cells #[.slice a' 3 ca, .slice c' 2 cc, .int .i64 gK] 106);have fz := Cel.new wr [.slice a' 3 ca, .slice c' 2 cc, .int .i64 gK] 106;have bzy := btr bk bz;have m0 := q0.below bzy;have n0 := m0.cell 0;have n1 := m0.cell 1;have n2 := m0.cell 2;have n3 := m0.cell 3;have n4 := m0.cell 4;have n5 := m0.cell 5;have z0 := fz.cell 0;have z1 := fz.cell 1;have z2 := fz.cell 2;simp only [List.getElem?_cons_zero, List.getElem?_cons_succ] at n0 n1 n2 n3 n4 n5 z0 z1 z2
   go_wp2_with fail
   obtain ⟨Z, hZ⟩ : ∃ Z, Z = wr.alloc (.cells #[.slice a' 3 ca, .slice c' 2 cc, .int .i64 gK] 106) := ⟨_, rfl⟩
   rw [<- hZ] at bz bzy ⊢;clear hZ c0 c1 c2 m0 n0 n1 n2 n3 n4 n5 z0 z1 z2 fz;have vZ := HW.out.below bzy;refine (vbounds_any a cap c m cap' (some ⟨G, 0, none⟩) N pc s e ec u uc a' ca c' cc gK C D E U gC gD ss Z vZ.hC vZ.hD vZ.hE vZ.hU (iC.below bz) (iD.below bz) hb.hN vZ.isg hb.hN1 hb.hm3 hb.bC hb.bE hb.bU bA bB ⟨bK1, bK2⟩ hb.bD).mono ?_;rintro ee w6 ⟨x, hx, rfl, b6⟩;have HX : Hid (potB m C D ss s E U k = x) := by show _ = _; rw [HB.out, hx]
   obtain ⟨lo, hi, kn⟩ := x;dsimp only;have bw := btr bzy b6;clear hx iC iD bz bzy vZ b6 lC lD bA bB bK1 bK2 HB
   go_wp2_with fail
   refine (imay1_any lo hi kn).mono ?_;rintro ee w7 ⟨rfl, b7⟩;have b8 := btr bw b7;clear b7 bw
   cases hp : may1 (lo, hi, kn)
   ·go_wp2
    go_roundw
    case rel => exact ⟨k + 1, by omega, by go_num, fun j hj => if h : j < k then HZ.out j h else by (obtain rfl : j = k := by omega); rw [HX.out, hp], b8⟩
    case measure => simp [intOf]; omega
   go_wp2
   go_ret
   exact ⟨by (show Ending.returned (.bool true) = _); rw [any_take hlt HZ.out (by rw [HX.out, hp])], btr b1 b8⟩
  have hk' : ¬ (k : Int) < 3 := by omega
  go_wp2
  go_ret
  exact ⟨by (show Ending.returned (.bool false) = _); first | rw [any_none (fun j hj => HZ.out j (by omega))] | (rw [HZ.out 0 (by omega), HZ.out 1 (by omega), HZ.out 2 (by omega)]; rfl), btr b1 bk⟩
end Go.Proofs.YtfmpcihghlnlnaaGreatDoor
