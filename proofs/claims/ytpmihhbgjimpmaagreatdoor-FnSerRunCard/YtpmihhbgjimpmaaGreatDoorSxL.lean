/-
  Lemmas that the claim's last text rests on.
-/
import Derived.Test.YtpmihhbgjimpmaaGreatDoorSxK
namespace Go.Proofs.YtpmihhbgjimpmaaGreatDoor
open Go.RowKit Go.Deep Go.Joins Go.ChangeShapes Go.WideShapes Go.ChangeAt
open Option.some renaming injEq → qA
open World renaming size_alloc → qB
open List renaming setIfInBounds_toArray → qC, set_cons_zero → qD, set_cons_succ → qE, getElem?_eq_getElem → qF, getElem_cons_zero → qG, getElem_cons_succ → qH, getElem?_cons_zero → qI, getElem?_cons_succ → qJ, getElem_toArray → qK, length_append → qL
open Nat renaming le_refl → qM
set_option linter.unusedVariables false
set_option maxRecDepth 100000
set_option maxHeartbeats 25600000
variable {K M : Int} {S : Nat -> Prop} {U V tl x zs : List Int} {W W' w : World} {a : Option Addr} {base cap i k n : Nat} {g : LV} {ls : List LV} {ts : List LgV} {v : Value}
def lgOk (cl : Int) (N : Nat) (f : LgV) : Bool := inCallB cl N f.x f.q f.c f.t.n f.t.x && fullB (resText f.e f.u.n f.u.x)
def logB (cl : Int) (N ln : Nat) (fs : List LgV) : Bool := decide (ln <= 100) && fs.all (lgOk cl N)
theorem lgs_step {p : LgV -> Bool} {fs : List LgV} (hk : k < fs.length) (h : (fs.take k).all p = true) (h2 : p (fs[k]?.getD noLg) = true) : (fs.take (k + 1)).all p = true := by
 rw [List.take_add_one, List.all_append, h, qF hk];rw [qF hk] at h2;simpa using h2
theorem lgs_no {p : LgV -> Bool} {fs : List LgV} (hk : k < fs.length) (h : p (fs[k]?.getD noLg) = false) : fs.all p = false := by
 rw [qF hk] at h;rw [List.all_eq_false]
 exact ⟨fs[k], List.getElem_mem hk, by simpa using h⟩
theorem slog_any (cl : Int) (ad : Option Addr) (N cap : Nat) (ga : Option Addr) (gn gc : Nat) (sa : Option Addr) (sn sc : Nat) (la : Option Addr) (ln lc : Nat) (fs : List LgV) {w : World} (hN : fs.length = ln) (hF : LgSG w la fs) (hz : ln <= 1048576) (h1 : 1 <= cl /\ cl <= 4) (h2 : 1 <= N /\ N <= 4) :
  Calls Tryz.prog 66 #[plV cl ad N cap ga gn gc sa sn sc, .slice la ln lc] w fun e w' => e = .returned (.bool (logB cl N ln fs)) /\ Below w.heap.size w w' := by
 have HN : Hid (fs.length = ln) := hN;have H1 : Hid _ := h1;have H2 : Hid _ := h2;clear hN h1 h2;have q0 := Cel.new w [.int .i64 cl, .slice ad N cap, .slice ga gn gc, .slice sa sn sc] 26;have B0 := (Below.refl w.heap.size w).alloc (qM _) (.cells #[.int .i64 cl, .slice ad N cap, .slice ga gn gc, .slice sa sn sc] 26)
 by_cases hc : ln <= 100
 ·have hc' : decide (100 < (ln : Int)) = false := by simp; omega
  have HC : Hid (logB cl N ln fs = fs.all (lgOk cl N)) := by show _ = _; simp [logB, hc]
  go_enter Tryz.func66, Tryz.ntmps66
  go_wp2_with fail
  obtain ⟨W0, hW0⟩ : ∃ W, W = w.alloc (.cells #[.int .i64 cl, .slice ad N cap, .slice ga gn gc, .slice sa sn sc] 26) := ⟨_, rfl⟩
  rw [<- hW0] at B0 q0 ⊢;clear hW0
  go_loopw [5] (fun i wr => ∃ k : Nat, k <= ln /\ i = .int .i64 k /\ Below W0.heap.size W0 wr /\ Hid ((fs.take k).all (lgOk cl N) = true)) (fun i _ => ln - (intOf i).toNat)
  case atStart => exact ⟨0, Nat.zero_le _, rfl, Below.refl _ _, rfl⟩
  case round =>
   obtain ⟨k, hk, rfl, hb0, HA⟩ := hrel;have hb := B0.trans (hb0.mono B0.size)
   by_cases hlt : k < ln
   ·obtain ⟨b, off, rfl, hc, hr⟩ := (hF.below hb) k (by rw [HN.out]; exact hlt);generalize HG : fs[k]?.getD noLg = g at *;have HG' : Hid (fs[k]?.getD noLg = g) := HG;clear HG hF;obtain ⟨e0, e1, e2, e3, e4, e5⟩ := cellsLg hc;obtain ⟨gx, gq, gc', ⟨gta, gtn, gtc, gtx⟩, ge, ⟨gua, gun, guc, gux⟩⟩ := g;have hIt : Ints wr gta gtn gtx := hr.1.1;have hzt : gtn <= 1048576 := hr.1.2;have hIu : Ints wr gua gun gux := hr.2.1.1;have hzu : gun <= 1048576 := hr.2.1.2;have hlt' : (k : Int) < (ln : Int) := by omega
    have q1 := q0.below hb0;have KP : Hid (∀ W, Below wr.heap.size wr W -> (W.cell? ⟨w.heap.size, 0, none⟩ = some (.int .i64 cl) /\ W.cell? ⟨w.heap.size, 1, none⟩ = some (.slice ad N cap) /\ W.cell? ⟨w.heap.size, 2, none⟩ = some (.slice ga gn gc) /\ W.cell? ⟨w.heap.size, 3, none⟩ = some (.slice sa sn sc)) /\ W.cell? ⟨b, off + k * 6, none⟩ = some (.int .i64 gx) /\ W.cell? ⟨b, off + k * 6 + 1, none⟩ = some (.int .i64 gq) /\ W.cell? ⟨b, off + k * 6 + 2, none⟩ = some (.int .i64 gc') /\ W.cell? ⟨b, off + k * 6 + 3, none⟩ = some (.slice gta gtn gtc) /\ W.cell? ⟨b, off + k * 6 + 4, none⟩ = some (.int .i64 ge) /\ W.cell? ⟨b, off + k * 6 + 5, none⟩ = some (.slice gua gun guc)) := fun W hW => ⟨(q1.below hW).quadC, (hW.cell (p := ⟨b, off + k * 6, none⟩) (block_lt e0)).trans e0, (hW.cell (p := ⟨b, off + k * 6 + 1, none⟩) (block_lt e1)).trans e1, (hW.cell (p := ⟨b, off + k * 6 + 2, none⟩) (block_lt e2)).trans e2, (hW.cell (p := ⟨b, off + k * 6 + 3, none⟩) (block_lt e3)).trans e3, (hW.cell (p := ⟨b, off + k * 6 + 4, none⟩) (block_lt e4)).trans e4, (hW.cell (p := ⟨b, off + k * 6 + 5, none⟩) (block_lt e5)).trans e5⟩
    have OK : Hid (lgOk cl N (fs[k]?.getD noLg) = (inCallB cl N gx gq gc' gtn gtx && fullB (resText ge gun gux))) := by show _ = _; rw [HG'.out]; rfl
    have NO : Hid ((inCallB cl N gx gq gc' gtn gtx && fullB (resText ge gun gux)) = false -> logB cl N ln fs = false) := fun hd => by rw [HC.out, lgs_no (by rw [HN.out]; exact hlt) (by rw [OK.out]; exact hd)]
    have YES : Hid ((inCallB cl N gx gq gc' gtn gtx && fullB (resText ge gun gux)) = true -> (fs.take (k + 1)).all (lgOk cl N) = true) := fun hd => lgs_step (by rw [HN.out]; exact hlt) HA.out (by rw [OK.out]; exact hd);have hSS := And.intro (KP.out _ (Below.refl _ _).drew) True.intro;obtain ⟨x, hx⟩ : ∃ x, x = inCallB cl N gx gq gc' gtn gtx := ⟨_, rfl⟩
    obtain ⟨y, hy⟩ : ∃ y, y = fullB (resText ge gun gux) := ⟨_, rfl⟩
    have HX : Hid _ := hx;have HY : Hid _ := hy;rw [<- hx, <- hy] at NO YES;clear hx hy e0 e1 e2 e3 e4 e5 hc hr OK
    go_upto_region 6 with fail
    refine wp_region_ends (fun w' => (w'.cell? ⟨w.heap.size, 0, none⟩ = some (.int .i64 cl) /\ w'.cell? ⟨w.heap.size, 1, none⟩ = some (.slice ad N cap) /\ w'.cell? ⟨w.heap.size, 2, none⟩ = some (.slice ga gn gc) /\ w'.cell? ⟨w.heap.size, 3, none⟩ = some (.slice sa sn sc)) /\ w'.cell? ⟨b, off + k * 6, none⟩ = some (.int .i64 gx) /\ w'.cell? ⟨b, off + k * 6 + 1, none⟩ = some (.int .i64 gq) /\ w'.cell? ⟨b, off + k * 6 + 2, none⟩ = some (.int .i64 gc') /\ w'.cell? ⟨b, off + k * 6 + 3, none⟩ = some (.slice gta gtn gtc) /\ w'.cell? ⟨b, off + k * 6 + 4, none⟩ = some (.int .i64 ge) /\ w'.cell? ⟨b, off + k * 6 + 5, none⟩ = some (.slice gua gun guc)) (fun _ => True) 16 (by kernel_rfl) ?_
    cases x
    ·skip
     refine tkl 0 rfl hSS ?_;refine tkl 1 rfl hSS ?_;refine tkl 2 rfl hSS ?_;refine tkl 3 rfl hSS ?_;simp only [Act.put, qC, qE, qD, qK, qH, qG];refine tkl 4 rfl hSS ?_;refine tkl 5 rfl hSS ?_;refine wo1 6 rfl fun K hK => ?_;go_simp;refine (l6call_any gtx (hIt.below (Below.refl _ _).drew) hzt H1.out H2.out).mono ?_;rintro ee w1 ⟨rfl, bd1⟩;rw [<- HX.out];have b1 := below_of_drew bd1;(try dsimp only);replace hSS := And.intro (KP.out w1 b1) True.intro;refine kk0 hK (hSS.1) ?_;refine tkl 7 rfl hSS ?_;refine tkl 8 rfl hSS ?_;refine tku 9 rfl hSS ?_;refine tku 10 rfl hSS ?_;simp only [Act.put, qC, qE, qD, qK, qH, qG];refine tku 11 rfl hSS ?_;refine tku 12 rfl hSS ?_;refine tku 13 rfl hSS ?_;refine tku 14 rfl hSS ?_;simp only [Act.put, qC, qE, qD, qK, qH, qG];refine tku 15 rfl hSS ?_;refine wo1 16 rfl fun K hK => ?_;go_simp;refine kk0 hK (hSS.1) ?_;refine wod ?_ _;clear hSS
     go_wp2
     go_ret
     exact ⟨ret_bool (by rw [NO.out rfl]), hb.trans (b1.mono hb.size)⟩
    skip
    refine tkl 0 rfl hSS ?_;refine tkl 1 rfl hSS ?_;refine tkl 2 rfl hSS ?_;refine tkl 3 rfl hSS ?_;simp only [Act.put, qC, qE, qD, qK, qH, qG];refine tkl 4 rfl hSS ?_;refine tkl 5 rfl hSS ?_;refine wo1 6 rfl fun K hK => ?_;go_simp;refine (l6call_any gtx (hIt.below (Below.refl _ _).drew) hzt H1.out H2.out).mono ?_;rintro ee w1 ⟨rfl, bd1⟩;rw [<- HX.out];have b1 := below_of_drew bd1;(try dsimp only);replace hSS := And.intro (KP.out w1 b1) True.intro;refine kk0 hK (hSS.1) ?_;refine tkl 7 rfl hSS ?_;refine tkl 8 rfl hSS ?_;refine tkl 9 rfl hSS ?_;refine tkl 10 rfl hSS ?_;simp only [Act.put, qC, qE, qD, qK, qH, qG];refine tkl 11 rfl hSS ?_;refine tkl 12 rfl hSS ?_;refine tkl 13 rfl hSS ?_;refine wo1 14 rfl fun K hK => ?_;go_simp;refine (sresok_any gux (hIu.below b1) hzu).mono ?_;rintro ee w2 ⟨rfl, b2⟩;rw [<- HY.out];have b2' := b1.trans (b2.mono b1.size);(try dsimp only);replace hSS := And.intro (KP.out w2 b2') True.intro;refine kk0 hK (hSS.1) ?_;refine tkl 15 rfl hSS ?_;refine wo1 16 rfl fun K hK => ?_;go_simp;refine kk0 hK (hSS.1) ?_;refine wod ?_ _;clear hSS
    cases y
    ·go_wp2
     go_ret
     exact ⟨ret_bool (by rw [NO.out rfl]), hb.trans (b2'.mono hb.size)⟩
    go_wp2
    go_roundw
    case rel => exact ⟨k + 1, by omega, by go_num, hb0.trans (b2'.mono hb0.size), YES.out rfl⟩
    case measure => simp [intOf]; omega
   obtain rfl : k = ln := by omega
   have HE : Hid (logB cl N k fs = true) := by
    show _ = _
    have h := HA.out;rw [List.take_of_length_le (by rw [HN.out]; exact qM _)] at h;rw [HC.out, h]
   go_wp2
   go_ret
   exact ⟨ret_bool (by rw [HE.out]), hb⟩
 have hc' : decide (100 < (ln : Int)) = true := by simp; omega
 have HC : Hid (logB cl N ln fs = false) := by show _ = _; simp [logB, hc]
 go_enter Tryz.func66, Tryz.ntmps66
 go_wp2
 go_ret
 exact ⟨ret_bool (by rw [HC.out]), B0⟩
theorem ilogf_any {cl : Int} {ad : Option Addr} {N : Nat} {ga : Option Addr} {gn gc : Nat} {sa : Option Addr} {sn sc : Nat} (ss : List L2V) (G S : List Int) {P : Nat} {i x q c : Int} {ta : Option Addr} {tn tc : Nat} (tx : List Int) {e : Int} {ua : Option Addr} {un uc : Nat} (ux : List Int) {w : World} (hP : Cel w P [.int .i64 cl, .slice ad N cap, .slice ga gn gc, .slice sa sn sc] 26) (hA : PlAt w ad N ss ga gn G sa sn S) (hI : Ints w ta tn tx) (hz : tn <= 1048576) (hI' : Ints w ua un ux) (hz' : un <= 1048576) (hT : Lib.TabBelow Tryz.prog w.heap.size w "internal/strconv.uint64pow10" .u64 Lib.pow10Tab) :
  Calls Tryz.prog 105 #[.int .i64 i, lgV x q c ta tn tc e ua un uc, .pointer (some ⟨P, 0, none⟩)] w fun r w' => r = .returned (.bool ((plnB cl N ss gn G sn S && inCallB cl N x q c tn tx) && fullB (resText e un ux))) /\ Below w.heap.size w w' := by
 have HT : Hid _ := hT;clear hT;have n0 := Cel.new w [.int .i64 x, .int .i64 q, .int .i64 c, .slice ta tn tc, .int .i64 e, .slice ua un uc] 61;have B0 := (Below.refl w.heap.size w).alloc (qM _) (.cells #[.int .i64 x, .int .i64 q, .int .i64 c, .slice ta tn tc, .int .i64 e, .slice ua un uc] 61);obtain ⟨X, hx⟩ : ∃ X, X = (plnB cl N ss gn G sn S && inCallB cl N x q c tn tx) := ⟨_, rfl⟩
 obtain ⟨Y, hy⟩ : ∃ Y, Y = fullB (resText e un ux) := ⟨_, rfl⟩
 have HX : Hid _ := hx;have HY : Hid _ := hy;rw [<- hx, <- hy];clear hx hy;have hP0 := hP.below B0;have hA0 := hA.below B0;have hI0 := hI.below B0;have hJ0 := hI'.below B0;clear hP hA hI hI'
 go_enter Tryz.func105, Tryz.ntmps105
 go_upto_region 1 with fail
 obtain ⟨W0, hW0⟩ : ∃ W, W = w.alloc (.cells #[.int .i64 x, .int .i64 q, .int .i64 c, .slice ta tn tc, .int .i64 e, .slice ua un uc] 61) := ⟨_, rfl⟩
 rw [<- hW0] at n0 B0 hP0 hA0 hI0 hJ0 ⊢;clear hW0;obtain ⟨p0, p1, p2, p3⟩ := hP0.quadC;obtain ⟨c0, c1, c2, c3, c4, c5⟩ := n0.sixL
 go_wp2_with fail
 refine (icallok_any ss G S tx hA0 hI0 hz (fun w' h' => HT.out w' (B0.trans (h'.mono B0.size)))).mono ?_;rintro ee w1 ⟨rfl, b1⟩;rw [<- HX.out];have n1 := n0.below b1;have B1 := B0.trans (b1.mono B0.size);clear p0 p1 p2 p3 c0 c1 c2 c3 c4 c5
 cases X
 ·go_wp2
  go_ret
  exact ⟨ret_bool rfl, B1⟩
 obtain ⟨c0, c1, c2, c3, c4, c5⟩ := n1.sixL
 go_wp2_with fail
 refine (iresok_any ux (hJ0.below b1) hz' (fun w' h' => HT.out w' (B1.trans (h'.mono B1.size)))).mono ?_;rintro ee w2 ⟨rfl, b2⟩;rw [<- HY.out];have B2 := B1.trans (b2.mono B1.size);clear c0 c1 c2 c3 c4 c5
 cases Y
 ·go_wp2
  go_ret
  exact ⟨ret_bool rfl, B2⟩
 go_wp2
 go_ret
 exact ⟨ret_bool rfl, B2⟩
theorem iallLg_any {cl : Int} {ad : Option Addr} {N : Nat} {ga : Option Addr} {gn gc : Nat} {sa : Option Addr} {sn sc : Nat} (ss : List L2V) (G S : List Int) {P : Nat} {la : Option Addr} {ln lc : Nat} (fs : List LgV) {w : World} (hP : Cel w P [.int .i64 cl, .slice ad N cap, .slice ga gn gc, .slice sa sn sc] 26) (hA : PlAt w ad N ss ga gn G sa sn S) (hN : fs.length = ln) (hF : LgSG w la fs) (hz : ln <= 1048576) (hT : Lib.TabBelow Tryz.prog w.heap.size w "internal/strconv.uint64pow10" .u64 Lib.pow10Tab) (hp : plnB cl N ss gn G sn S = true) :
  Calls Tryz.prog 104 #[.slice la ln lc, .func (.func 105) #[] #[.pointer (some ⟨P, 0, none⟩)]] w fun r w' => r = .returned (.bool (fs.all (lgOk cl N))) /\ Below w.heap.size w w' := by
 have HT : Hid _ := hT;have HN : Hid (fs.length = ln) := hN;have HP : Hid _ := hp;have HPC : Hid (Cel w P [.int .i64 cl, .slice ad N cap, .slice ga gn gc, .slice sa sn sc] 26) := hP;have HPA : Hid _ := hA;clear hT hN hp hP hA
 go_enter Tryz.func104, Tryz.ntmps104
 go_wp2_with fail
 go_loopw [5, 6, 9] (fun _ _ i wr => ∃ k : Nat, k <= ln /\ i = .int .i64 k /\ Below w.heap.size w wr /\ Hid ((fs.take k).all (lgOk cl N) = true)) (fun _ _ i _ => ln - (intOf i).toNat)
 case atStart => exact ⟨0, Nat.zero_le _, rfl, Below.refl _ _, rfl⟩
 case round =>
  obtain ⟨k, hk, rfl, hb, HA⟩ := hrel
  by_cases hlt : k < ln
  ·obtain ⟨b, off, rfl, hc, hr⟩ := (hF.below hb) k (by rw [HN.out]; exact hlt);generalize HG : fs[k]?.getD noLg = g at *;have HG' : Hid (fs[k]?.getD noLg = g) := HG;clear HG hF;obtain ⟨e0, e1, e2, e3, e4, e5⟩ := cellsLg hc;obtain ⟨gx, gq, gc', ⟨gta, gtn, gtc, gtx⟩, ge, ⟨gua, gun, guc, gux⟩⟩ := g;have e0' : wr.cell? ⟨b, off + k * 6, none⟩ = some (.int .i64 gx) := e0;have e1' : wr.cell? ⟨b, off + k * 6 + 1, none⟩ = some (.int .i64 gq) := e1;have e2' : wr.cell? ⟨b, off + k * 6 + 2, none⟩ = some (.int .i64 gc') := e2;have e3' : wr.cell? ⟨b, off + k * 6 + 3, none⟩ = some (.slice gta gtn gtc) := e3;have e4' : wr.cell? ⟨b, off + k * 6 + 4, none⟩ = some (.int .i64 ge) := e4;have e5' : wr.cell? ⟨b, off + k * 6 + 5, none⟩ = some (.slice gua gun guc) := e5;have hIt : Ints wr gta gtn gtx := hr.1.1;have hzt : gtn <= 1048576 := hr.1.2;have hIu : Ints wr gua gun gux := hr.2.1.1;have hzu : gun <= 1048576 := hr.2.1.2;have hlt' : (k : Int) < (ln : Int) := by omega
   have OK : Hid (lgOk cl N (fs[k]?.getD noLg) = (inCallB cl N gx gq gc' gtn gtx && fullB (resText ge gun gux))) := by show _ = _; rw [HG'.out]; rfl
   have NO : Hid ((inCallB cl N gx gq gc' gtn gtx && fullB (resText ge gun gux)) = false -> fs.all (lgOk cl N) = false) := fun hd => lgs_no (by rw [HN.out]; exact hlt) (by rw [OK.out]; exact hd);have YES : Hid ((inCallB cl N gx gq gc' gtn gtx && fullB (resText ge gun gux)) = true -> (fs.take (k + 1)).all (lgOk cl N) = true) := fun hd => lgs_step (by rw [HN.out]; exact hlt) HA.out (by rw [OK.out]; exact hd);obtain ⟨y, hy⟩ : ∃ y, y = (inCallB cl N gx gq gc' gtn gtx && fullB (resText ge gun gux)) := ⟨_, rfl⟩
   have HY : Hid (y = (inCallB cl N gx gq gc' gtn gtx && fullB (resText ge gun gux))) := hy;rw [<- hy] at NO YES;obtain ⟨WA, hWA⟩ : ∃ W, W = wr.alloc (.cells #[.int .i64 gx, .int .i64 gq, .int .i64 gc', .slice gta gtn gtc, .int .i64 ge, .slice gua gun guc] 61) := ⟨_, rfl⟩
   have A1 : Below wr.heap.size wr WA := by rw [hWA]; exact bal
   have pA : Cel WA wr.heap.size [.int .i64 gx, .int .i64 gq, .int .i64 gc', .slice gta gtn gtc, .int .i64 ge, .slice gua gun guc] 61 := by rw [hWA]; exact Cel.new wr _ _
   have bA := hb.trans (A1.mono hb.size);clear hy e0 e1 e2 e3 e4 e5 hc hr OK
   go_upto_region 4 with fail
   rw [<- hWA];obtain ⟨q0, q1, q2, q3, q4, q5⟩ := pA.sixL;clear hWA e0' e1' e2' e3' e4' e5'
   go_wp2_with fail
   refine (ilogf_any ss G S gtx gux (HPC.out.below bA) (HPA.out.below bA) (hIt.below A1) hzt (hIu.below A1) hzu (fun w' h' => HT.out w' (bA.trans (h'.mono bA.size)))).mono ?_;rintro ee w1 ⟨rfl, b1⟩;rw [HP.out, Bool.true_and, <- HY.out];have hb1 := bA.trans (b1.mono bA.size);clear q0 q1 q2 q3 q4 q5
   cases y
   ·go_wp2
    go_ret
    exact ⟨ret_bool (by rw [NO.out (by trivial)]), hb1⟩
   go_wp2
   go_roundw
   case rel => exact ⟨k + 1, by omega, by go_num, hb1, YES.out (by trivial)⟩
   case measure => simp [intOf]; omega
  obtain rfl : k = ln := by omega
  have HE : Hid (fs.all (lgOk cl N) = true) := by
   show _ = _
   have h := HA.out;rw [List.take_of_length_le (by rw [HN.out]; exact qM _)] at h
   exact h
  go_wp2
  go_ret
  exact ⟨ret_bool (by rw [HE.out]), hb⟩
theorem ilog_any (cl : Int) (ad : Option Addr) (N cap : Nat) (ga : Option Addr) (gn gc : Nat) (sa : Option Addr) (sn sc : Nat) (ss : List L2V) (G S : List Int) (la : Option Addr) (ln lc : Nat) (fs : List LgV) {w : World} (hA : PlAt w ad N ss ga gn G sa sn S) (hN : fs.length = ln) (hF : LgSG w la fs) (hz : ln <= 1048576) (hT : Lib.TabBelow Tryz.prog w.heap.size w "internal/strconv.uint64pow10" .u64 Lib.pow10Tab) (hp : plnB cl N ss gn G sn S = true) :
  Calls Tryz.prog 64 #[plV cl ad N cap ga gn gc sa sn sc, .slice la ln lc] w fun r w' => r = .returned (.bool (logB cl N ln fs)) /\ Below w.heap.size w w' := by
 have HT : Hid _ := hT;have HN : Hid (fs.length = ln) := hN;have HP : Hid _ := hp;clear hT hN hp;have q0 := Cel.new w [.int .i64 cl, .slice ad N cap, .slice ga gn gc, .slice sa sn sc] 26;have B0 := (Below.refl w.heap.size w).alloc (qM _) (.cells #[.int .i64 cl, .slice ad N cap, .slice ga gn gc, .slice sa sn sc] 26)
 by_cases hc : ln <= 100
 ·have hc' : decide ((ln : Int) <= 100) = true := by simp; omega
  have HC : Hid (logB cl N ln fs = fs.all (lgOk cl N)) := by show _ = _; simp [logB, hc]
  go_enter Tryz.func64, Tryz.ntmps64
  go_wp2_with fail
  refine (iallLg_any ss G S fs q0 (hA.below B0) HN.out (hF.below B0) hz (fun w' h' => HT.out w' (B0.trans (h'.mono B0.size))) HP.out).mono ?_;rintro ee w1 ⟨rfl, b1⟩;have B1 := B0.trans (b1.mono B0.size)
  go_wp2
  go_ret
  exact ⟨ret_bool (by rw [HC.out]), B1⟩
 have hc' : decide ((ln : Int) <= 100) = false := by simp; omega
 have HC : Hid (logB cl N ln fs = false) := by show _ = _; simp [logB, hc]
 go_enter Tryz.func64, Tryz.ntmps64
 go_wp2
 go_ret
 exact ⟨ret_bool (by rw [HC.out]), B0⟩
theorem Ints.offL (h : Ints W a n zs) (t : Touch S W W') (hS : 0 < n -> ∀ b o, a = some ⟨b, o, none⟩ -> ¬ S b) : Ints W' a n zs := by
 by_cases hn : 0 < n
 ·exact h.off t (hS hn)
 exact ⟨h.1, fun i hi => by omega⟩
def LgP (base : Nat) (W : World) (v : Value) (t : IV) : Prop := Ints W t.a t.n t.x /\ t.n <= 1048576 /\ (0 < t.n -> ∀ b o, t.a = some ⟨b, o, none⟩ -> base <= b /\ some b ≠ v.ownBlock)
theorem LgP.touch {t : IV} (h : LgP base W v t) (T : Touch S W W') (hS : ∀ b, base <= b -> some b ≠ v.ownBlock -> ¬ S b) : LgP base W' v t :=
 ⟨h.1.offL T (fun h0 b o e => hS b (h.2.2 h0 b o e).1 (h.2.2 h0 b o e).2), h.2⟩
theorem ints_lt (h : Ints W a n zs) (hn : 0 < n) {b o : Nat} (e : a = some ⟨b, o, none⟩) : b < W.heap.size := by
 obtain ⟨b', off, e', hc⟩ := h.2 0 hn;rw [e] at e'
 cases e'
 exact block_lt hc
structure Lgd (base : Nat) (W : World) (v : Value) (ts : List LgV) : Prop where
 o : W.ownsRow base 61 6 v ts.length (ts.flatMap LgV.cs)
 k : ∀ i, i < ts.length -> LgP base W v (ts[i]?.getD noLg).t /\ LgP base W v (ts[i]?.getD noLg).u
theorem own_touchG {e : TypeId} {s : Nat} {xs : List Value} (h : W.ownsRow base e s v n xs) (t : Touch S W W') (hS : ∀ g, base <= g -> ¬ S g) : W'.ownsRow base e s v n xs := by
 refine ⟨h.1, ?_⟩
 rcases h.2 with h2 | ⟨g, cap, cur, hv, hg, hh, r⟩
 ·exact Or.inl h2
 exact Or.inr ⟨g, cap, cur, hv, hg, by rw [t.block g (lt_of_block hh) (hS g hg)]; exact hh, r⟩
theorem Lgd.touch (j : Lgd base W v ts) (t : Touch S W W') (hS : ∀ k, S k -> k < base) : Lgd base W' v ts :=
 ⟨own_touchG j.o t (fun g hg hs => by have := hS g hs; omega), fun i hi => ⟨(j.k i hi).1.touch t (fun b hb _ hs => by have := hS b hs; omega), (j.k i hi).2.touch t (fun b hb _ hs => by have := hS b hs; omega)⟩⟩
theorem Lgd.below (j : Lgd base W v ts) (b : Below W.heap.size W W') : Lgd base W' v ts := j.touch (Touch.of (S := fun _ => False) b) (fun _ h => h.elim)
theorem Lgd.own (j : Lgd base W v ts) {g : Nat} (h : v.ownBlock = some g) : base <= g /\ g < W.heap.size := by
 rcases j.o.2 with ⟨h', _⟩ | ⟨g', cap, cur, hv, hg, hh, r⟩
 ·rw [h'] at h; simp [Value.ownBlock] at h
 rw [hv] at h;simp only [Value.ownBlock, qA] at h;subst h
 exact ⟨hg, lt_of_block hh⟩
theorem Lgd.isSlice (j : Lgd base W v ts) (hk : ts.length = k) : ∃ a c, v = .slice a k c /\ k <= c /\ c <= maxLen := by
 subst hk
 rcases j.o.2 with ⟨h', h0⟩ | ⟨g', cap, cur, hv, hg, hh, h1, h2, r⟩
 ·exact ⟨none, 0, by rw [h', h0], by omega, by unfold maxLen; omega⟩
 exact ⟨_, _, hv, h1, h2⟩
theorem Lgd.app {v' : Value} {s : LgV} {o : Obj} (j : Lgd base W v ts) (hk : ts.length = k) (ht : LgP base W v s.t) (hu : LgP base W v s.u)
  (hown : W'.ownsRow base 61 6 v' (k + 1) (ts.flatMap LgV.cs ++ s.cs)) (hg : (W.alloc o).grownBy W' v.ownBlock) (hat : v'.ownBlock = v.ownBlock \/ v'.ownBlock = some (W.alloc o).heap.size) : Lgd base W' v' (ts ++ [s]) := by
 subst hk;have B1 : Below W.heap.size W (W.alloc o) := bal;have T : Touch (fun z => v.ownBlock = some z) (W.alloc o) W' := ⟨hg.os, hg.tape, hg.output, hg.size, fun k hk hn => hg.block k hk (fun e => hn (by first | exact e | exact e.symm))⟩
 have mv : ∀ t : IV, LgP base W v t -> LgP base W' v' t := fun t h => by
  have h1 := (h.touch (Touch.of (S := fun _ => False) B1) (fun _ _ _ hs => hs)).touch T (fun b _ hn hs => hn hs.symm);refine ⟨h1.1, h1.2.1, fun h0 b o e => ⟨(h1.2.2 h0 b o e).1, fun e2 => ?_⟩⟩
  rcases hat with e3 | e3
  ·exact (h1.2.2 h0 b o e).2 (e2.trans e3)
  have := ints_lt h.1 h0 e;rw [e3, qB] at e2;simp only [qA] at e2
  omega
 refine ⟨?_, fun i hi => ?_⟩
 ·rw [qL, List.flatMap_append];have : [s].flatMap LgV.cs = s.cs := by simp
  rw [this]
  exact hown
 rw [qL, List.length_singleton] at hi
 by_cases h : i < ts.length
 ·rw [List.getElem?_append_left h]
  exact ⟨mv _ (j.k i h).1, mv _ (j.k i h).2⟩
 obtain rfl : i = ts.length := by omega
 rw [List.getElem?_append_right (qM _), Nat.sub_self]
 exact ⟨mv _ ht, mv _ hu⟩
theorem Lgd.sg {la : Option Addr} {ln lc : Nat} (j : Lgd base W (.slice la ln lc) ts) (hn : ts.length = ln) : LgSG W la ts := by
 intro i hi
 rcases j.o.2 with ⟨hv, h0⟩ | ⟨g, cap', cur, hv, hg, hh, r1, r2, r3, ht⟩
 ·omega
 simp only [Value.slice.injEq] at hv;obtain ⟨rfl, -, -⟩ := hv;refine ⟨g, 0, rfl, fun r hr => ?_, ⟨(j.k i hi).1.1, (j.k i hi).1.2.1⟩, ⟨(j.k i hi).2.1, (j.k i hi).2.2.1⟩, trivial⟩;rw [Nat.zero_add]
 have hc : W.cell? ⟨g, i * 6 + r, none⟩ = cur.toList[i * 6 + r]? := by
  have : Cel W g cur.toList 61 := by unfold Cel; simpa using hh
  exact this.cell _
 rw [hc, <- atLgc ts i hi r hr, <- ht, List.getElem?_take, if_pos (by omega)]
theorem dSerRun (bs : List Int) {w : World} (h : BInts w a n bs) (hn : n <= cap) (hn1 : n <= 1048576) (hc : cap <= maxLen) :
  Calls Tryz.prog 20 #[.slice a n cap] w fun e w' => ∃ cl ad N c ss ga gn gc G sa sn sc S la ln lc fs, e = .returned (.tuple #[.agg #[.int .i64 cl, .slice ad N c, .slice ga gn gc, .slice sa sn sc], .slice la ln lc]) /\ Below w.heap.size w w' /\ PlAt w' ad N ss ga gn G sa sn S /\ fs.length = ln /\ ln <= 8 /\ LgSG w' la fs /\ ln <= lc /\ lc <= maxLen := by
 have q0 := Cel.new w [.int .i64 0, .slice none 0 0, .slice none 0 0, .slice none 0 0] 26;have al := (Below.refl w.heap.size w).alloc (qM _) (.cells #[.int .i64 0, .slice none 0 0, .slice none 0 0, .slice none 0 0] 26);obtain ⟨zi, hi, hz0, hz1, hz2⟩ := info_parts Tryz.infoLogDone
 go_enter Tryz.func20, Tryz.ntmps20
 go_wp2_with fail
 refine (open_any bs (h.below al) hn hn1 hc).mono ?_;rintro e w1 ⟨R, n', cap2, bs', rfl, b1, hR, r1⟩;rw [qB] at hR;replace q0 := q0.below b1;have hw := q0.lt;have hRl := r1.c.lt;have HA : Hid (0 < n' -> ∀ b o, a = some ⟨b, o, none⟩ -> b < w1.heap.size) := r1.ha;have B1 := btr al b1;clear b1 al h
 go_wp2_with fail
 refine (anyplan_f R a n' cap2 bs' 0 16 r1 (by omega) (by omega) (by omega) (by omega) r1.ha).mono ?_;rintro e w2 ⟨cl, ad, N, c, ss, ga, gn, gc, G, sa, sn, sc, S, q, rfl, T, rd, PF, y0, y1⟩;replace q0 := q0.touch T (by omega);have zT := T.size;have B2 := B1.trans (T.below B1.size (fun k hk => by omega));clear r1 T B1
 -- the plan's box
 have al2 := (Below.refl w2.heap.size w2).alloc (qM _) (.cells #[.int .i64 cl, .slice ad N c, .slice ga gn gc, .slice sa sn sc] 26);have q5 := Cel.new w2 [.int .i64 cl, .slice ad N c, .slice ga gn gc, .slice sa sn sc] 26;obtain ⟨P5, hP5⟩ : ∃ x, x = w2.heap.size := ⟨_, rfl⟩
 obtain ⟨w3, hw3⟩ : ∃ W, W = w2.alloc (.cells #[.int .i64 cl, .slice ad N c, .slice ga gn gc, .slice sa sn sc] 26) := ⟨_, rfl⟩
 replace q0 := q0.below al2;replace rd := rd.below al2;replace PF := PF.touch (Touch.of (S := fun x => x = R) al2) (fun k hk => by omega);have B3 := btr B2 al2;have z3 := al2.size;have hP5b : w2.heap.size <= P5 /\ P5 <= w2.heap.size := by omega
 clear B2 al2;have o0 : ((w2.alloc (.cells #[.int .i64 cl, .slice ad N c, .slice ga gn gc, .slice sa sn sc] 26)).alloc (.cells #[] 61)).ownsRow (w2.alloc (.cells #[.int .i64 cl, .slice ad N c, .slice ga gn gc, .slice sa sn sc] 26)).heap.size 61 6 (.slice (some ⟨(w2.alloc (.cells #[.int .i64 cl, .slice ad N c, .slice ga gn gc, .slice sa sn sc] 26)).heap.size, 0, none⟩) 0 0) 0 [] := World.ownsRow_lit (w2.alloc (.cells #[.int .i64 cl, .slice ad N c, .slice ga gn gc, .slice sa sn sc] 26)) #[] 0 (qM _) (by unfold maxLen; omega) rfl;have al3 := (Below.refl (w2.alloc (.cells #[.int .i64 cl, .slice ad N c, .slice ga gn gc, .slice sa sn sc] 26)).heap.size (w2.alloc (.cells #[.int .i64 cl, .slice ad N c, .slice ga gn gc, .slice sa sn sc] 26))).alloc (qM _) (.cells #[] 61)
 go_wp2_with fail
 rw [<- hP5] at q5;rw [<- hP5, <- hw3];rw [<- hw3] at q0 q5 rd PF B3 z3 o0 al3;have l5 := q5.lt;have Q0 : Hid _ := q0;have Q5 : Hid _ := q5;have PP : Hid _ := PF;have BB : Hid _ := B3;replace rd := rd.below al3;have z4 := al3.size;have e3 : w3.heap.size = P5 + 1 := by rw [hw3, qB, hP5]
 clear hw3 hP5 B3 q0 q5 PF;refine (pick_any R a n' cap2 bs' q 8 rd).mono ?_;rintro e w5 ⟨x, x0, x1, rfl, t5, R5⟩;have z5 := t5.size
 have J0 : Lgd w3.heap.size w5 (.slice (some ⟨P5 + 1, 0, none⟩) 0 0) [] := by
  rw [<- e3]
  exact ⟨own_touchG o0 t5 (fun g hg e => by omega), fun i hi => by simp at hi⟩
 obtain ⟨m0, rfl⟩ : ∃ m : Nat, x = (m : Int) := ⟨x.toNat, by omega⟩
 have T0 : Touch (fun x => x = R) w3 w5 := (Touch.of al3).trans t5;clear t5 al3 rd o0
 go_wp2_with fail
 go_loopw [6, 7] (fun out kk wr => ∃ (m : Nat) (ts : List LgV) (q' : Int), kk = .int .i64 m /\ m <= 7 /\ Hid (ts.length + m <= 7) /\ Lgd w3.heap.size wr out ts /\ Rd wr R a n' cap2 bs' q' /\ 0 <= q' /\ q' <= 2000 + 100 * ts.length /\ Touch (fun x => x = R) w3 wr) (fun _ kk _ => (intOf kk).toNat)
 case atStart => exact ⟨m0, [], q + 1, rfl, by omega, by show 0 + m0 <= 7; omega, J0, R5, by omega, by simp; omega, T0⟩
 case round =>
  clear J0 R5 T0;obtain ⟨m, ts, q', rfl, hm, HM, j, rr, p0, p1, tt⟩ := hrel;obtain ⟨k, hk⟩ : ∃ k, ts.length = k := ⟨_, rfl⟩
  have HK : Hid (ts.length = k) := hk;have hk7 : k + m <= 7 := by rw [<- hk]; exact HM.out
  rw [hk] at p1;have zt := tt.size;obtain ⟨va, vc, rfl, hvc1, hvc2⟩ := j.isSlice hk
  by_cases hlt : 0 < m
  ·have hlt' : (0 : Int) < (m : Int) := by omega
   have q5 := Cel.touch Q5.out tt (by omega);have g0 := q5.cell 0;have g1 := q5.cell 1;have g2 := q5.cell 2;have g3 := q5.cell 3;simp only [qI, qJ] at g0 g1 g2 g3;clear hk
   go_wp2_with fail
   refine (call_f R a n' cap2 bs' q' 40 cl ad N c (.slice ga gn gc) (.slice sa sn sc) rr p0 (by omega) (by omega) (by omega) (by have := PP.out.n5; omega) ⟨_, _, _, rfl⟩ ⟨_, _, _, rfl⟩ rr.ha).mono ?_;rintro e w6 ⟨x, s, kk, ua, un, uc, U, q6, rfl, C6⟩;have z6 := C6.t.size;have j6 := j.touch C6.t (fun k hk => by omega)
   have u6 : LgP w3.heap.size w6 (.slice va k vc) ⟨ua, un, uc, U⟩ := ⟨C6.i, by have := C6.u4; show un <= 1048576; omega, fun h0 b o e => by
    have h1 := C6.lo b o e
    exact ⟨by omega, fun e2 => by have := (j.own e2.symm).2; omega⟩⟩
   have rd6 := C6.r;have p6 := C6.q0;have p6' := C6.q1;have t6 := tt.trans C6.t;clear C6 rr j tt g0 g1 g2 g3 q5
   go_wp2_with fail
   refine (res_f R a n' cap2 bs' q6 60 rd6 (by omega) (by omega) (by omega) (by omega) rd6.ha).mono ?_;rintro e w7 ⟨rc, ta, tn, tc, TT, q7, rfl, C7⟩;have z7 := C7.t.size;have j7 := j6.touch C7.t (fun k hk => by omega);have u7 := u6.touch C7.t (fun b hb _ e => by omega)
   have s7 : LgP w3.heap.size w7 (.slice va k vc) ⟨ta, tn, tc, TT⟩ := ⟨C7.i, by have := C7.n7; show tn <= 1048576; omega, fun h0 b o e => by
    have h1 := C7.lo b o e
    exact ⟨by omega, fun e2 => by have := (j6.own e2.symm).2; omega⟩⟩
   have rd7 := C7.r;have p7 := C7.q0;have p7' := C7.q1;have t7 := t6.trans C7.t;clear C7 rd6 j6 u6 t6;have A : Below w7.heap.size w7 (w7.alloc (.cells #[.int .i64 x, .int .i64 s, .int .i64 kk, .slice ua un uc, .int .i64 rc, .slice ta tn tc] 61)) := bal
   have ho : (w7.alloc (.cells #[.int .i64 x, .int .i64 s, .int .i64 kk, .slice ua un uc, .int .i64 rc, .slice ta tn tc] 61)).ownsRow w3.heap.size 61 6 (.slice va k vc) k (ts.flatMap LgV.cs) := by
    have := (j7.below A).o;rw [HK.out] at this
    exact this
   have zA := A.size
   go_wp2_with (at_builtin; go_must (refine wpList_append_lies _ rfl (.tmp 19) (.tmp 26) 46 rfl w3.heap.size 61 zi _ 6 80 Tryz.underlying46 hi hz0 hz1 hz2 rfl (by decide) (.slice va k vc) k (ts.flatMap LgV.cs) rfl ho ⟨w7.heap.size, 0, none⟩ 1 1 [.int .i64 x, .int .i64 s, .int .i64 kk, .slice ua un uc, .int .i64 rc, .slice ta tn tc] rfl rfl (World.news_of_block (cs := #[.int .i64 x, .int .i64 s, .int .i64 kk, .slice ua un uc, .int .i64 rc, .slice ta tn tc]) (t := 61) (fr := (0, 0)) (heap_alloc_new w7 _)) (by simp [Value.oneCell']) (by omega) (by unfold maxLen; omega) (by omega) (by rw [qB]; omega) _ rfl ?_); intro g cp w8 hown hgrow hat hlt1)
   have hat' : (Value.slice (some ⟨g, 0, none⟩) (k + 1) cp).ownBlock = (Value.slice va k vc).ownBlock \/ (Value.slice (some ⟨g, 0, none⟩) (k + 1) cp).ownBlock = some (w7.alloc (.cells #[.int .i64 x, .int .i64 s, .int .i64 kk, .slice ua un uc, .int .i64 rc, .slice ta tn tc] 61)).heap.size := hat.elim (fun h => .inl (by rw [h]; rfl)) (fun h => .inr (by rw [h]; rfl));have j8 := j7.app (s := ⟨x, s, kk, ⟨ua, un, uc, U⟩, rc, ⟨ta, tn, tc, TT⟩⟩) HK.out u7 s7 hown hgrow hat';have tg : Touch (fun z => (Value.slice va k vc).ownBlock = some z) (w7.alloc (.cells #[.int .i64 x, .int .i64 s, .int .i64 kk, .slice ua un uc, .int .i64 rc, .slice ta tn tc] 61)) w8 := ⟨hgrow.os, hgrow.tape, hgrow.output, hgrow.size, fun k hk hn => hgrow.block k hk (fun e => hn (by first | exact e | exact e.symm))⟩
   have hlo : ∀ z, (Value.slice va k vc).ownBlock = some z -> w3.heap.size <= z := fun z hz => (j7.own hz).1;have rd8 : Rd w8 R a n' cap2 bs' q7 := (rd7.below A).touch tg (fun e => by have := hlo _ e; omega) (fun h0 b o e hs => by have := hlo _ hs; have := HA.out h0 b o e; omega)
   have t8 : Touch (fun x => x = R) w3 w8 := by
    have t7' := t7.trans (Touch.of A);refine ⟨hgrow.os.trans t7'.os, hgrow.tape.trans t7'.tape, hgrow.output.trans t7'.output, Nat.le_trans t7'.size hgrow.size, fun b hb hn => ?_⟩;have h1 := t7'.block b hb hn;rw [<- h1];refine hgrow.block b (Nat.lt_of_lt_of_le hb t7'.size) (fun e => ?_);have := hlo b e.symm
    omega
   have hl8 : (ts ++ [(⟨x, s, kk, ⟨ua, un, uc, U⟩, rc, ⟨ta, tn, tc, TT⟩⟩ : LgV)]).length = k + 1 := by rw [qL, HK.out]; rfl
   clear hown hgrow hat hat' tg hlo j7 rd7 A ho t7 u7 s7
   go_wp2
   go_roundw
   case rel => exact ⟨m - 1, _, q7, by go_num, by omega, by show _ <= _; rw [hl8]; omega, j8, rd8, by omega, by rw [hl8]; omega, t8⟩
   case measure => simp [intOf]; omega
  obtain rfl : m = 0 := by omega
  have q5 := Cel.touch Q5.out tt (by omega);have q0 := Cel.touch Q0.out tt (by omega);have g0 := q5.cell 0;have g1 := q5.cell 1;have g2 := q5.cell 2;have g3 := q5.cell 3;have e0 := q0.cell 0;have e1 := q0.cell 1;have e2 := q0.cell 2;have e3 := q0.cell 3;have f0 := q0.free 0;have f1 := q0.free 1;have f2 := q0.free 2;have f3 := q0.free 3;simp only [qI, qJ] at g0 g1 g2 g3 e0 e1 e2 e3;have lq := q0.lt;have B9 := BB.out.trans (tt.below BB.out.size (fun k hk => by omega))
  go_wp2
  have TS : Touch (fun k => k = w.heap.size) wr ((((wr.setCell ⟨w.heap.size, 0, none⟩ (.int .i64 cl)).setCell ⟨w.heap.size, 1, none⟩ (.slice ad N c)).setCell ⟨w.heap.size, 2, none⟩ (.slice ga gn gc)).setCell ⟨w.heap.size, 3, none⟩ (.slice sa sn sc)) := Touch.setCell (S := fun k => k = w.heap.size) (Touch.setCell (S := fun k => k = w.heap.size) (Touch.setCell (S := fun k => k = w.heap.size) (Touch.setCell (S := fun k => k = w.heap.size) (Touch.refl _ _) rfl _) rfl _) rfl _) rfl _;refine bodyPost_ret (v := .tuple #[.agg #[.int .i64 cl, .slice ad N c, .slice ga gn gc, .slice sa sn sc], .slice va k vc]) (by simp [results, Tryz.results20, go_sem, e0, e1, e2, e3]) rfl ⟨cl, ad, N, c, ss, ga, gn, gc, G, sa, sn, sc, S, va, k, vc, ts, rfl, (((B9.setCell (qM _) _).setCell (qM _) _).setCell (qM _) _).setCell (qM _) _, ((PP.out.touch tt (fun k hk => by omega)).touch TS (fun k hk => by omega)).at, hk, by omega, (j.touch TS (fun k hk => by omega)).sg hk, hvc1, hvc2⟩
theorem okN_nat {c : Nat} {m : Int} (hm : 0 <= m) (h : okN c m n zs = true) : n = c /\ bnd m zs := by
 obtain ⟨h1, h2⟩ := okN_elim hm h
 exact ⟨by omega, h2⟩
theorem newsI {b off : Nat} (h : ∀ i, i < n -> w.cell? ⟨b, off + i, none⟩ = some (.int .i64 (zs.getD i 0))) (hl : zs.length = n) : ∀ j u, (zs.map (Value.int .i64))[j]? = some u -> w.cell? ((⟨b, off, none⟩ : Addr).add j) = some u := fun j u hu => by
 have hj : j < n := by
  have := (List.getElem?_eq_some_iff.1 hu).1;simpa [hl] using this
 have hadd : (⟨b, off, none⟩ : Addr).add j = ⟨b, off + j, none⟩ := by
  by_cases h0 : j = 0
  ·subst h0; simp [Addr.add]
  simp [Addr.add, h0]
 rw [hadd, h j hj];rw [List.getElem?_map, qF (by omega)] at hu;simp only [Option.map_some, qA] at hu;rw [<- hu];simp [hl, hj]
theorem oneI : ∀ u ∈ zs.map (Value.int .i64), u.oneCell' = true := fun u hu => by
 obtain ⟨x, _, rfl⟩ := List.mem_map.1 hu
 rfl
theorem JA.copied {g : Nat} (hn : zs.length = n) (hown : W'.ownsRow w.heap.size 3 1 (.slice (some ⟨g, 0, none⟩) (0 + n) cap) (0 + n) ([] ++ zs.map (Value.int .i64))) (hg : (w.alloc (.cells #[] 3)).grownBy W' (Value.ownBlock (.slice (some ⟨w.heap.size, 0, none⟩) 0 0))) :
  JA w (.slice (some ⟨g, 0, none⟩) n cap) zs W' := by
 have h0 := JA.lit w;refine h0.own (ys := zs) ?_ hg;rw [hn];simpa using hown
theorem clone_any (a : Option Addr) (n cap : Nat) (zs : List Int) {w : World} (h : Ints w a n zs) (hn : n <= 1048576 := by omega) (h0 : 0 < n := by omega) :
  Calls Tryz.prog 43 #[.slice a n cap] w fun e w' => ∃ v, e = .returned v /\ JA w v zs w' := by
 have HZ : Hid (zs.length = n) := h.1;obtain ⟨i0, hi, hz0, hz1, hz2⟩ := info_parts Tryz.infoInt;obtain ⟨b, off, rfl, hcell⟩ := h.pos h0
 have hcl : ∀ i, i < n -> (w.alloc (.cells #[] 3)).cell? ⟨b, off + i, none⟩ = some (.int .i64 (zs.getD i 0)) := fun i hi => by
  rw [((Below.refl w.heap.size w).alloc (qM _) _).cell (p := ⟨b, off + i, none⟩) (block_lt (hcell i hi))]; exact hcell i hi
 have HC : Hid _ := newsI hcl HZ.out;have HL : Hid ((zs.map (Value.int .i64)).length = n * 1) := by show _ = _; rw [List.length_map, HZ.out, Nat.mul_one]
 have HJ : Hid _ := (JA.lit w).o;clear hcl hcell h;have hnil : ∀ w, (binOp .eql 24 (.slice (some ⟨b, off, none⟩) n cap) (.slice none 0 0)).run Tryz.prog w = .ok (.bool false) w := fun w => Go.Lib.run_eql_slice_nil w _ _ _ _ _ _ _ Tryz.underlying24
 go_enter Tryz.func43, Tryz.ntmps43
 go_wp2_with (at_builtin; go_must (refine wpList_append_lies _ rfl (.tmp 5) (.tmp 6) 24 rfl w.heap.size 3 i0 (.int .i64 0) 1 8 Tryz.underlying24 hi hz0 hz1 hz2 rfl (by decide) _ 0 [] rfl HJ.out ⟨b, off, none⟩ n cap (zs.map (Value.int .i64)) rfl HL.out HC.out (oneI) h0 (by unfold maxLen; omega) (by omega) (by rw [qB]; omega) _ rfl ?_); intro g cp w1 hown hgrow hat hlt1)
 have j := JA.copied HZ.out hown hgrow;clear hown hgrow
 go_wp2
 go_ret
 exact ⟨_, rfl, j⟩
def atF (V U : List Int) (f : FV) : Int := atV f.C f.D f.K V U
abbrev resV (code : Int) (a : Option Addr) (n cap : Nat) : Value := .agg #[.int .i64 code, .slice a n cap]
def ResD (w w' : World) (e : Ending) (code : Int) (tl pl : List Int) : Prop :=
 ∃ a n cap B1 b m cap' B2, e = .returned (.tuple #[resV code a n cap, .slice b m cap']) /\ tl.length = n /\ pl.length = m /\ Below w.heap.size w w' /\ OwnX w' a B1 n tl /\ OwnX w' b B2 m pl /\ (0 < n -> w.heap.size <= B1) /\ (0 < m -> w.heap.size <= B2) /\ (0 < n -> 0 < m -> B1 ≠ B2)
def endCode (P : List Int) : Int := if okN 3 10000 3 P then 1 else 3
def endTells (P T : List Int) : List Int := if okN 3 10000 3 P then T else []
def endPots (V P : List Int) : List Int := if okN 3 10000 3 P then P else V
theorem done_any {v : Option Addr} {cv : Nat} {p : Option Addr} {cp : Nat} (B2 : Nat) {t : Option Addr} {n ct : Nat} (B1 : Nat) (V P T : List Int) {w : World} (hV : Ints w v 3 V) (hP : OwnX w p B2 3 P) (hT : OwnX w t B1 n T) (hne : 0 < n -> B1 ≠ B2) (lo : Nat) (h1 : 0 < n -> lo <= B1) (h2 : lo <= B2) (hlo : lo <= w.heap.size) :
  Calls Tryz.prog 71 #[.slice v 3 cv, .slice p 3 cp, .slice t n ct] w fun e w' => ∃ a n' cap B1' b m cap' B2', e = .returned (.tuple #[resV (endCode P) a n' cap, .slice b m cap']) /\ (endTells P T).length = n' /\ (endPots V P).length = m /\ Below w.heap.size w w' /\ OwnX w' a B1' n' (endTells P T) /\ OwnX w' b B2' m (endPots V P) /\ (0 < n' -> lo <= B1') /\ (0 < m -> lo <= B2') /\ (0 < n' -> 0 < m -> B1' ≠ B2') := by
 have l1 : 0 < n -> B1 < w.heap.size := fun h => hT.lt h;have l2 : B2 < w.heap.size := hP.lt (by omega);obtain ⟨i0, hi, hz0, hz1, hz2⟩ := info_parts Tryz.infoInt;have al : Below w.heap.size w (w.alloc (.cells #[.int .i64 0, .slice none 0 0] 54)) := bal
 cases hok : okN 3 10000 3 P
 ·have e1 : endCode P = 3 := by rw [endCode, hok]; rfl
  have e2 : endTells P T = [] := by rw [endTells, hok]; rfl
  have e3 : endPots V P = V := by rw [endPots, hok]; rfl
  rw [e1, e2, e3];clear e1 e2 e3
  go_enter Tryz.func71, Tryz.ntmps71
  go_wp2_with fail
  refine (ival_any P (hP.alloc _).ints (by omega)).mono ?_;rintro e w1 ⟨rfl, hw1⟩;rw [hok, hw1];clear hw1
  go_wp2_with fail
  refine (clone_any _ _ _ V (hV.alloc _)).mono ?_;rintro e w2 ⟨r, rfl, j⟩;have rc := (Cel.new w [.int .i64 0, .slice none 0 0] 54).below j.b;obtain ⟨a, cap, B, rfl, hX, hB⟩ := j.ownx hV.1;rw [qB] at hB;have bb := btr al j.b;have r0 := rc.cell 0;have r1 := rc.cell 1;have f0 := rc.free 0;have f1 := rc.free 1;simp only [qI, qJ] at r0 r1;have hlt := rc.lt;clear rc j
  go_wp2
  refine bodyPost_ret (v := .tuple #[resV 3 none 0 0, .slice a 3 cap]) (by simp [results, Tryz.results71, go_sem, r0, r1]) rfl ⟨none, 0, 0, 0, a, 3, cap, B, rfl, rfl, hV.1, ?_, OwnX.nil _ _ _, ?_, fun h => by omega, fun h => by have := hB h; omega, fun h => by omega⟩
  ·exact (bb.setCell (qM _) _).setCell (qM _) _
  exact (hX.setOther (fun h => by have := hB h; omega) _ _).setOther (fun h => by have := hB h; omega) _ _
 have e1 : endCode P = 1 := by rw [endCode, hok]; rfl
 have e2 : endTells P T = T := by rw [endTells, hok]; rfl
 have e3 : endPots V P = P := by rw [endPots, hok]; rfl
 rw [e1, e2, e3];clear e1 e2 e3
 go_enter Tryz.func71, Tryz.ntmps71
 go_wp2_with fail
 refine (ival_any P (hP.alloc _).ints (by omega)).mono ?_;rintro e w1 ⟨rfl, hw1⟩;rw [hok, hw1];clear hw1
 go_wp2
 refine bodyPost_ret (v := .tuple #[resV 1 t n ct, .slice p 3 cp]) (by simp [results, Tryz.results71, go_sem]) rfl ⟨t, n, ct, B1, p, 3, cp, B2, rfl, hT.1, hP.1, ?_, ?_, ?_, h1, fun _ => h2, fun h _ => hne h⟩
 ·first | exact bal | exact ((bal).setCell (qM _) _).setCell (qM _) _
 ·first | exact hT.alloc _ | exact ((hT.alloc _).setOther (fun h => by have := l1 h; omega) _ _).setOther (fun h => by have := l1 h; omega) _ _
 first | exact hP.alloc _ | exact ((hP.alloc _).setOther (fun h => by omega) _ _).setOther (fun h => by omega) _ _
theorem end_any {v : Option Addr} {cv : Nat} {p : Option Addr} {cp : Nat} (B2 : Nat) {t : Option Addr} {n ct : Nat} (B1 : Nat) (V P T : List Int) {w : World} (hV : Ints w v 3 V) (hP : OwnX w p B2 3 P) (hT : OwnX w t B1 n T) (hne : 0 < n -> B1 ≠ B2) (lo : Nat) (h1 : 0 < n -> lo <= B1) (h2 : lo <= B2) (hlo : lo <= w.heap.size) :
  Calls Tryz.prog 112 #[.slice v 3 cv, .slice p 3 cp, .slice t n ct] w fun e w' => ∃ a n' cap B1' b m cap' B2', e = .returned (.tuple #[resV (endCode P) a n' cap, .slice b m cap']) /\ (endTells P T).length = n' /\ (endPots V P).length = m /\ Below w.heap.size w w' /\ OwnX w' a B1' n' (endTells P T) /\ OwnX w' b B2' m (endPots V P) /\ (0 < n' -> lo <= B1') /\ (0 < m -> lo <= B2') /\ (0 < n' -> 0 < m -> B1' ≠ B2') := by
 have l1 : 0 < n -> B1 < w.heap.size := fun h => hT.lt h;have l2 : B2 < w.heap.size := hP.lt (by omega);obtain ⟨i0, hi, hz0, hz1, hz2⟩ := info_parts Tryz.infoInt;have al : Below w.heap.size w (w.alloc (.cells #[.int .i64 0, .slice none 0 0] 54)) := bal
 cases hok : okN 3 10000 3 P
 ·have e1 : endCode P = 3 := by rw [endCode, hok]; rfl
  have e2 : endTells P T = [] := by rw [endTells, hok]; rfl
  have e3 : endPots V P = V := by rw [endPots, hok]; rfl
  rw [e1, e2, e3];clear e1 e2 e3
  go_enter Tryz.func112, Tryz.ntmps112
  go_wp2_with fail
  refine (sval_any P (hP.alloc _).ints (by omega)).mono ?_;rintro e w1 ⟨rfl, hw1⟩;rw [hok];have rc0 : Cel w1 w.heap.size [.int .i64 0, .slice none 0 0] 54 := by rw [hw1]; exact Cel.new w _ _
  have b0 : Below w.heap.size w w1 := by rw [hw1]; exact al
  have hV1 := hV.below b0;have hlt := rc0.lt;clear hw1 al;obtain ⟨vb, vo, rfl, hcell⟩ := hV1.pos (by omega)
  have hcl : ∀ i, i < 3 -> (w1.alloc (.cells #[] 3)).cell? ⟨vb, vo + i, none⟩ = some (.int .i64 (V.getD i 0)) := fun i hi => by
   rw [((Below.refl w1.heap.size w1).alloc (qM _) _).cell (p := ⟨vb, vo + i, none⟩) (block_lt (hcell i hi))]; exact hcell i hi
  have HC : Hid _ := newsI hcl hV.1;have HL : Hid ((V.map (Value.int .i64)).length = 3 * 1) := by show _ = _; rw [List.length_map, hV.1]
  have HJ : Hid _ := (JA.lit w1).o;clear hcl hcell
  go_wp2_with (at_builtin; go_must (refine wpList_append_lies _ rfl (.tmp 12) (.tmp 13) 24 rfl w1.heap.size 3 i0 (.int .i64 0) 1 8 Tryz.underlying24 hi hz0 hz1 hz2 rfl (by decide) _ 0 [] rfl HJ.out ⟨vb, vo, none⟩ 3 cv (V.map (Value.int .i64)) rfl HL.out HC.out (oneI) (by omega) (by unfold maxLen; omega) (by omega) (by rw [qB]; omega) _ rfl ?_); intro g cp2 w2 hown hgrow hat hlt1; have j := JA.copied hV.1 hown hgrow; have rc := rc0.below j.b; have r0 := rc.cell 0; have r1 := rc.cell 1; have f0 := rc.free 0; have f1 := rc.free 1; simp only [qI, qJ] at r0 r1; have hlt2 := rc.lt; clear hown hgrow hat)
  obtain ⟨a, cap, B, hv2, hX, hB⟩ := j.ownx hV.1;simp only [Value.slice.injEq, true_and] at hv2;obtain ⟨rfl, rfl⟩ := hv2;have bb := btr b0 j.b;clear rc j rc0;refine bodyPost_ret (v := .tuple #[resV 3 none 0 0, .slice (some ⟨g, 0, none⟩) 3 cp2]) (by simp [results, Tryz.results112, go_sem, r0, r1]) rfl ⟨none, 0, 0, 0, some ⟨g, 0, none⟩, 3, cp2, B, rfl, rfl, hV.1, ?_, OwnX.nil _ _ _, ?_, fun h => by omega, fun h => by have := hB h; omega, fun h => by omega⟩
  ·exact (bb.setCell (qM _) _).setCell (qM _) _
  exact (hX.setOther (fun h => by have := hB h; omega) _ _).setOther (fun h => by have := hB h; omega) _ _
 have e1 : endCode P = 1 := by rw [endCode, hok]; rfl
 have e2 : endTells P T = T := by rw [endTells, hok]; rfl
 have e3 : endPots V P = P := by rw [endPots, hok]; rfl
 rw [e1, e2, e3];clear e1 e2 e3
 go_enter Tryz.func112, Tryz.ntmps112
 go_wp2_with fail
 refine (sval_any P (hP.alloc _).ints (by omega)).mono ?_;rintro e w1 ⟨rfl, hw1⟩;rw [hok, hw1];clear hw1
 go_wp2
 refine bodyPost_ret (v := .tuple #[resV 1 t n ct, .slice p 3 cp]) (by simp [results, Tryz.results112, go_sem]) rfl ⟨t, n, ct, B1, p, 3, cp, B2, rfl, hT.1, hP.1, ?_, ?_, ?_, h1, fun _ => h2, fun h _ => hne h⟩
 ·first | exact bal | exact ((bal).setCell (qM _) _).setCell (qM _) _
 ·first | exact hT.alloc _ | exact ((hT.alloc _).setOther (fun h => by have := l1 h; omega) _ _).setOther (fun h => by have := l1 h; omega) _ _
 first | exact hP.alloc _ | exact ((hP.alloc _).setOther (fun h => by omega) _ _).setOther (fun h => by omega) _ _
theorem Cel.pair {B : Nat} {x y : Value} {t : TypeId} (h : Cel w B [x, y] t) : w.cell? ⟨B, 0, none⟩ = some x /\ w.cell? ⟨B, 1, none⟩ = some y /\ w.frozen? ⟨B, 0, none⟩ = false /\ w.frozen? ⟨B, 1, none⟩ = false := ⟨h.cell 0, h.cell 1, h.free 0, h.free 1⟩
theorem iatG_any {c : Option Addr} {cap' : Nat} (C D : List Int) {v : Option Addr} {cv : Nat} {u : Option Addr} {cu : Nat} (V A : List Int) {w : World}
  (hC : Ints w a 3 C) (hD : Ints w c 2 D) (hV : Ints w v 3 V) (hA : Ints w u 2 A) (P Q : Int) (p1 : bndP P C V) (p2 : bndP Q D A) (zP : 0 <= P) (zQ : 0 <= Q) (tP : P <= 100000000000) (tQ : Q <= 100000000000) (bK : -10000000 <= K /\ K <= 10000000) :
  Calls Tryz.prog 145 #[formV a 3 cap c 2 cap' K, .slice v 3 cv, .slice u 2 cu] w fun e w' => e = .returned (.int .i64 (atV C D K V A)) /\ Below w.heap.size w w' := by
 have d1 := dot_bnd p1 3;have d2 := dot_bnd p2 2;obtain ⟨K1, K2⟩ := bK;have q1 : ∀ w' : World, Below w.heap.size w w' -> Calls Tryz.prog 155 #[.slice a 3 cap, .slice v 3 cv] w' fun e w'' => e = .returned (.int .i64 (dot C V 3)) /\ w'' = w' := fun w' hb => psum_any C V (hC.below hb) (hV.below hb) (by omega) p1;have q2 : ∀ w' : World, Below w.heap.size w w' -> Calls Tryz.prog 155 #[.slice c 2 cap', .slice u 2 cu] w' fun e w'' => e = .returned (.int .i64 (dot D A 2)) /\ w'' = w' := fun w' hb => psum_any D A (hD.below hb) (hA.below hb) (by omega) p2;have Q1 : Hid _ := q1;have Q2 : Hid _ := q2;obtain ⟨X, hX⟩ : ∃ X, X = dot C V 3 := ⟨_, rfl⟩
 obtain ⟨Y, hY⟩ : ∃ Y, Y = dot D A 2 := ⟨_, rfl⟩
 have e1 : -1000000000000 <= dot C V 3 := by omega
 have e2 : dot C V 3 <= 1000000000000 := by omega
 have e3 : -1000000000000 <= dot D A 2 := by omega
 have e4 : dot D A 2 <= 1000000000000 := by omega
 clear d1 d2 q1 q2 hX hY X Y p1 p2 zP zQ tP tQ hC hD hV hA
 go_enter Tryz.func145, Tryz.ntmps145
 go_wp2_with fail
 go_quiet (first | (go_at_call_of 155 (Value.slice a 3 cap); exact Calls.quiet_of_same (Q1.out _ (by repeat (first | exact bal | refine below_drewN ?_ _ | refine Below.drew ?_)))) | (go_at_call_of 155 (Value.slice c 2 cap'); exact Calls.quiet_of_same (Q2.out _ (by repeat (first | exact bal | refine below_drewN ?_ _ | refine Below.drew ?_)))))
 go_wp2
 go_ret
 exact ⟨rfl, below_drewN (bal) _⟩
theorem satG_any {c : Option Addr} {cap' : Nat} (C D : List Int) {v : Option Addr} {cv : Nat} {u : Option Addr} {cu : Nat} (V A : List Int) {w : World}
  (hC : Ints w a 3 C) (hD : Ints w c 2 D) (hV : Ints w v 3 V) (hA : Ints w u 2 A) {P Q : Int} (p1 : bndP P C V) (p2 : bndP Q D A) (zP : 0 <= P) (zQ : 0 <= Q) (tP : P <= 100000000000) (tQ : Q <= 100000000000) (bK : -10000000 <= K /\ K <= 10000000) :
  Calls Tryz.prog 111 #[formV a 3 cap c 2 cap' K, .slice v 3 cv, .slice u 2 cu] w fun e w' => e = .returned (.int .i64 (atV C D K V A)) /\ Below w.heap.size w w' := by
 obtain ⟨K1, K2⟩ := bK;have P1 : Hid (bndP P C V) := p1;have P2 : Hid (bndP Q D A) := p2;clear p1 p2
 go_enter Tryz.func111, Tryz.ntmps111
 go_wp2_with fail
 go_loopw [7, 8] (fun s i wr => ∃ k : Nat, k <= 3 /\ i = .int .i64 k /\ s = .int .i64 (K + dot C V k) /\ Below w.heap.size w wr /\ Cel wr w.heap.size [.slice a 3 cap, .slice c 2 cap', .int .i64 K] 95) (fun _ i _ => 3 - (intOf i).toNat)
 case atStart => exact ⟨0, by omega, rfl, by simp [dot], bal, Cel.new w _ _⟩
 case round =>
  obtain ⟨k, hk, rfl, rfl, hb, hS⟩ := hrel
  by_cases hlt : k < 3
  ·obtain ⟨b, off, rfl, hcell⟩ := (hC.below hb).pos (by omega);obtain ⟨b', off', rfl, hcell'⟩ := (hV.below hb).pos (by omega);have hck := hcell k hlt;have hck' := hcell' k hlt;have hlt' : (k : Int) < 3 := by omega
   have s0 := hS.cell 0;simp only [qI] at s0;obtain ⟨d3, d4⟩ := P1.out k;have d := dot_bnd P1.out k;have kP : (k : Int) * P <= 3 * P := Int.mul_le_mul_of_nonneg_right (by omega) (by omega);have d1 : -1000000000000000 <= dot C V k := by omega
   have d2 : dot C V k <= 1000000000000000 := by omega
   have d7 : -100000000000 <= C[k]?.getD 0 * V[k]?.getD 0 := by omega
   have d8 : C[k]?.getD 0 * V[k]?.getD 0 <= 100000000000 := by omega
   clear hcell hcell' hC hD hV hA d kP d3 d4
   go_wp2_with fail
   go_quiet (fail)
   go_wp2
   go_roundw
   case rel => exact ⟨k + 1, by omega, by go_num, congrArg (Value.int IntKind.i64) (by simp only [dot]; omega), below_drewN hb _, hS⟩
   case measure => simp [intOf]; omega
  obtain rfl : k = 3 := by omega
  have d := dot_bnd P1.out 3;have d1 : -1000000000000000 <= dot C V 3 := by omega
  have d2 : dot C V 3 <= 1000000000000000 := by omega
  clear d hC hV
  go_wp2_with fail
  go_loopw [7, 9] (fun s i wx => ∃ k : Nat, k <= 2 /\ i = .int .i64 k /\ s = .int .i64 (K + dot C V 3 + dot D A k) /\ Below w.heap.size w wx /\ Cel wx w.heap.size [.slice a 3 cap, .slice c 2 cap', .int .i64 K] 95) (fun _ i _ => 2 - (intOf i).toNat)
  case atStart => exact ⟨0, by omega, rfl, by simp [dot], hb, hS⟩
  case round =>
   clear hb hS;obtain ⟨j, hj, rfl, rfl, hb, hS⟩ := hrel
   by_cases hlt : j < 2
   ·obtain ⟨b, off, rfl, hcell⟩ := (hD.below hb).pos (by omega);obtain ⟨b', off', rfl, hcell'⟩ := (hA.below hb).pos (by omega);have hck := hcell j hlt;have hck' := hcell' j hlt;have hlt' : (j : Int) < 2 := by omega
    have s0 := hS.cell 1;simp only [qI, qJ] at s0;obtain ⟨d5, d6⟩ := P2.out j;have d := dot_bnd P2.out j;have kP : (j : Int) * Q <= 2 * Q := Int.mul_le_mul_of_nonneg_right (by omega) (by omega);have d3 : -1000000000000000 <= dot D A j := by omega
    have d4 : dot D A j <= 1000000000000000 := by omega
    have d7 : -100000000000 <= D[j]?.getD 0 * A[j]?.getD 0 := by omega
    have d8 : D[j]?.getD 0 * A[j]?.getD 0 <= 100000000000 := by omega
    clear hcell hcell' hD hA d kP d5 d6
    go_wp2_with fail
    go_quiet (fail)
    go_wp2
    go_roundw
    case rel => exact ⟨j + 1, by omega, by go_num, congrArg (Value.int IntKind.i64) (by simp only [dot]; omega), below_drewN hb _, hS⟩
    case measure => simp [intOf]; omega
   obtain rfl : j = 2 := by omega
   go_wp2
   go_ret
   exact ⟨ret_int (by unfold atV; omega), hb⟩
def bd : Nat -> Int
 | 0 => 10000
 | n + 1 => 7 * bd n + 56
theorem bd_pos : ∀ n, 10000 <= bd n
 | 0 => by simp [bd]
 | n + 1 => by have := bd_pos n; simp only [bd]; omega
theorem bd_succ (n : Nat) : bd n <= bd (n + 1) := by have := bd_pos n; simp only [bd]; omega
theorem bd_mono {m : Nat} (h : n <= m) : bd n <= bd m := by
 induction h with
 | refl => exact Int.le_refl _
 | step _ ih => exact Int.le_trans ih (bd_succ _)
theorem bd_six (h : n <= 6) : bd n <= 2000000000 := Int.le_trans (bd_mono h) (by simp [bd])
theorem bnd_mono {M' : Int} (h : bnd M zs) (hM : M <= M') : bnd M' zs := fun i => by have := h i; omega
theorem small_elim {m : Nat} {C D : List Int} (h : smallB n m C D K = true) : n = 3 /\ m = 2 /\ bnd 2 C /\ bnd 2 D /\ -20 <= K /\ K <= 20 := by
 simp only [smallB, Bool.and_eq_true] at h;obtain ⟨⟨h1, h2⟩, h3⟩ := h;obtain ⟨e1, b1⟩ := okN_elim (by omega) h1;obtain ⟨e2, b2⟩ := okN_elim (by omega) h2;have := inB_iff.1 h3
 exact ⟨by omega, by omega, b1, b2, this.1, this.2⟩
theorem small_at {C D : List Int} (bC : bnd 2 C) (bD : bnd 2 D) (k1 : -20 <= K) (k2 : K <= 20) (bV : bnd M V) (bU : bnd 9 U) (hM : 0 <= M) : bndP (2 * M) C V /\ bndP 18 D U /\ -(6 * M + 56) <= atV C D K V U /\ atV C D K V U <= 6 * M + 56 := by
 have p1 := bndP_of bC bV (by omega) hM;have p2 := bndP_of bD bU (by omega) (by omega);have d1 := dot_bnd p1 3;have d2 := dot_bnd p2 2;refine ⟨p1, p2, ?_, ?_⟩ <;> unfold atV <;> omega
theorem bnd_set {v : Int} (h : bnd M x) (h1 : -M <= v) (h2 : v <= M) : bnd M (x.set k v) := fun i => by
 by_cases e : i = k
 ·subst e
  by_cases hi : i < x.length
  ·rw [List.getElem?_set_self hi]; simp; omega
  rw [List.getElem?_eq_none (by simp; omega)];have := h i;simp
  omega
 rw [List.getElem?_set_ne (by omega)]; exact h i
def goL (U : List Int) (ls : List LV) : Nat -> Nat -> List Int -> List Int -> Bool × List Int × List Int
 | 0, _, x, tl => (false, x, tl)
 | f + 1, i, x, tl =>
  if i < ls.length then
   if (ls[i]?.getD noLV).kind = 1 then goL U ls f (if atF x U (ls[i]?.getD noLV).f < 0 then i + 1 + (ls[i]?.getD noLV).skip.toNat else i + 1) x tl
   else if (ls[i]?.getD noLV).kind = 2 then goL U ls f (i + 1) (x.set (ls[i]?.getD noLV).pot.toNat (x[(ls[i]?.getD noLV).pot.toNat]?.getD 0 + atF x U (ls[i]?.getD noLV).f)) tl
   else if (ls[i]?.getD noLV).kind = 3 then goL U ls f (i + 1) x (tl ++ [atF x U (ls[i]?.getD noLV).f])
   else (true, x, tl)
  else (false, x, tl)
theorem goL_end {f : Nat} (h : ls.length <= i) : goL U ls f i x tl = (false, x, tl) := by
 cases f with
 | zero => rfl
 | succ f => rw [goL, if_neg (by omega)]
theorem goL_one {f : Nat} (h : i < ls.length) (hf : 0 < f) (hg : ls[i]?.getD noLV = g) : goL U ls f i x tl = (if g.kind = 1 then goL U ls (f - 1) (if atF x U g.f < 0 then i + 1 + g.skip.toNat else i + 1) x tl else if g.kind = 2 then goL U ls (f - 1) (i + 1) (x.set g.pot.toNat (x[g.pot.toNat]?.getD 0 + atF x U g.f)) tl else if g.kind = 3 then goL U ls (f - 1) (i + 1) x (tl ++ [atF x U g.f]) else (true, x, tl)) := by
 obtain ⟨n, rfl⟩ : ∃ n, f = n + 1 := ⟨f - 1, by omega⟩
 rw [goL, if_pos h, hg]; rfl
def runL (U : List Int) (ls : List LV) (V : List Int) : Bool × List Int × List Int := goL U ls 7 0 V []
structure At (U : List Int) (ls : List LV) (V : List Int) (i : Nat) (x tl : List Int) : Prop where
 r : ∃ f, 7 <= i + f /\ runL U ls V = goL U ls f i x tl
 b : i <= 6 -> bnd (bd i) x
 l : x.length = 3
 t : tl.length <= i
theorem At.start (h : bnd 10000 V) (hl : V.length = 3) : At U ls V 0 V [] := ⟨⟨7, by omega, rfl⟩, fun _ => h, hl, qM _⟩
theorem At.done (h : At U ls V i x tl) (hi : ls.length <= i) : runL U ls V = (false, x, tl) := by
 obtain ⟨f, _, e⟩ := h.r;rw [e, goL_end hi]
theorem At.one (h : At U ls V i x tl) (hi : i < ls.length) (h6 : ls.length <= 6) (hg : ls[i]?.getD noLV = g) : ∃ f, 7 <= (i + 1) + f /\ runL U ls V = (if g.kind = 1 then goL U ls f (if atF x U g.f < 0 then i + 1 + g.skip.toNat else i + 1) x tl else if g.kind = 2 then goL U ls f (i + 1) (x.set g.pot.toNat (x[g.pot.toNat]?.getD 0 + atF x U g.f)) tl else if g.kind = 3 then goL U ls f (i + 1) x (tl ++ [atF x U g.f]) else (true, x, tl)) := by
 obtain ⟨f, h1, e⟩ := h.r
 exact ⟨f - 1, by omega, by rw [e, goL_one hi (by omega) hg]⟩
theorem At.skip {j : Nat} (h : At U ls V i x tl) (hi : i < ls.length) (h6 : ls.length <= 6) (hg : ls[i]?.getD noLV = g) (hk : g.kind = 1) (hj : j = if atF x U g.f < 0 then i + 1 + g.skip.toNat else i + 1) : At U ls V j x tl := by
 obtain ⟨f, h1, e⟩ := h.one hi h6 hg;rw [if_pos hk, <- hj] at e;have hij : i + 1 <= j := by rw [hj]; split <;> omega
 have ht := h.t
 exact ⟨⟨f, by omega, e⟩, fun h => bnd_mono (‹At U ls V i x tl›.b (by omega)) (bd_mono (by omega)), h.l, by omega⟩
theorem At.add (h : At U ls V i x tl) (hi : i < ls.length) (h6 : ls.length <= 6) (hg : ls[i]?.getD noLV = g) (hk : g.kind = 2) (h1 : -(6 * bd i + 56) <= atF x U g.f) (h2 : atF x U g.f <= 6 * bd i + 56) : At U ls V (i + 1) (x.set g.pot.toNat (x[g.pot.toNat]?.getD 0 + atF x U g.f)) tl := by
 obtain ⟨f, h3, e⟩ := h.one hi h6 hg;rw [if_neg (by omega), if_pos hk] at e;have ht := h.t;refine ⟨⟨f, by omega, e⟩, fun _ => ?_, by rw [List.length_set]; exact h.l, by omega⟩;have hb := h.b (by omega);have := hb g.pot.toNat;have hp := bd_pos i
 exact bnd_set (bnd_mono hb (bd_succ i)) (by simp only [bd]; omega) (by simp only [bd]; omega)
theorem At.tell (h : At U ls V i x tl) (hi : i < ls.length) (h6 : ls.length <= 6) (hg : ls[i]?.getD noLV = g) (hk : g.kind = 3) : At U ls V (i + 1) x (tl ++ [atF x U g.f]) := by
 obtain ⟨f, h3, e⟩ := h.one hi h6 hg;rw [if_neg (by omega), if_neg (by omega), if_pos hk] at e;have ht := h.t
 exact ⟨⟨f, by omega, e⟩, fun _ => bnd_mono (h.b (by omega)) (bd_succ i), h.l, by rw [qL]; simp; omega⟩
theorem At.stop (h : At U ls V i x tl) (hi : i < ls.length) (h6 : ls.length <= 6) (hg : ls[i]?.getD noLV = g) (h1 : ¬ g.kind = 1) (h2 : ¬ g.kind = 2) (h3 : ¬ g.kind = 3) : (runL U ls V).1 = true := by
 obtain ⟨f, _, e⟩ := h.one hi h6 hg;rw [if_neg h1, if_neg h2, if_neg h3] at e;rw [e]
end Go.Proofs.YtpmihhbgjimpmaaGreatDoor
