/-
  Whether what was done for clients is ok: both functions answer the same. Lengths at most 1048576; the library's table of powers of ten is as its text lays it.
-/
import Derived.Test.YtfmpcihghlnlnaaGreatDoorQf
namespace Go.Proofs.YtfmpcihghlnlnaaGreatDoor
open Go.RowKit Go.Deep
open List renaming setIfInBounds_toArray → qA, set_cons_zero → qB, set_cons_succ → qC, getElem?_eq_getElem → qD, getElem_cons_zero → qE, getElem_cons_succ → qF, getElem_toArray → qG
open Nat renaming le_refl → qH
set_option linter.unusedVariables false
set_option maxRecDepth 100000
set_option maxHeartbeats 25600000
variable {N cap k n : Nat} {c cl : Int} {fs : List DV} {zs : List Int}
def dnOk (s c : Int) (n : Nat) (zs : List Int) : Bool := if s = 0 then decide (c = 0) && decide (n = 0) else inB s 1 300 && fullB (resText c n zs)
def DV.ok (f : DV) : Bool := dnOk f.q f.c f.t.n f.t.x
def donesB (cl : Int) (N : Nat) (fs : List DV) : Bool := decide ((N : Int) = cl) && fs.all DV.ok
theorem full_code (h : fullB (resText c n zs) = true) : c ≠ 0 := fun e => by
 subst e;rw [resText_no (by simp [resOkB, inB])] at h;simp [fullB, ByteArray.toList_mk] at h
theorem dn_zero : dnOk 0 c n zs = (decide (c = 0) && decide (n = 0)) := by rw [dnOk, if_pos rfl]
theorem dn_some {s : Int} (h : s ≠ 0) : dnOk s c n zs = (inB s 1 300 && fullB (resText c n zs)) := by rw [dnOk, if_neg h]
theorem dones_not (h : ¬ (N : Int) = cl) : donesB cl N fs = false := by simp [donesB, h]
theorem dones_is (h : (N : Int) = cl) : donesB cl N fs = fs.all DV.ok := by simp [donesB, h]
theorem dones_step (h : k < fs.length) (h1 : (fs.take k).all DV.ok = true) (h2 : (fs[k]?.getD noD).ok = true) : (fs.take (k + 1)).all DV.ok = true := by
 rw [List.take_succ_eq_append_getElem h, List.all_append, h1];rw [qD h] at h2;simpa using h2
theorem dones_no (h : k < fs.length) (h2 : (fs[k]?.getD noD).ok = false) : fs.all DV.ok = false := by
 rw [List.all_eq_false];refine ⟨fs[k], List.getElem_mem h, ?_⟩;rw [qD h] at h2;simpa using h2
theorem dones_end (h : fs.length <= k) (h1 : (fs.take k).all DV.ok = true) : fs.all DV.ok = true := by rwa [List.take_of_length_le h] at h1
theorem dones_copy {gs : List DV} (hl : gs.length = fs.length) (h : copiesDS fs gs) : donesB cl N gs = donesB cl N fs := by
 have : gs.map DV.ok = fs.map DV.ok := by
  apply List.ext_getElem?
  intro i
  by_cases hi : i < gs.length
  ·obtain ⟨e1, e2, ⟨e3, e4⟩, -⟩ := h i hi;have e : (gs[i]?.getD noD).ok = (fs[i]?.getD noD).ok := by rw [DV.ok, DV.ok, e1, e2, e3, e4]
   rw [qD hi, qD (by omega)] at e;simp only [Option.getD_some] at e;rw [List.getElem?_map, List.getElem?_map, qD hi, qD (by omega)];simp [e]
  rw [List.getElem?_eq_none (by simp; omega), List.getElem?_eq_none (by simp; omega)]
 have e1 : ∀ xs : List DV, xs.all DV.ok = (xs.map DV.ok).all id := fun xs => by simp [List.all_map]
 rw [donesB, donesB, e1, e1, this]
theorem same_copyD {gs hs : List DV} (h1 : gs.length = N) (h2 : hs.length = N) (c1 : copiesDS fs gs) (c2 : copiesDS fs hs) : ∀ i, i < N -> sameD (gs[i]?.getD noD) (hs[i]?.getD noD) := fun i hi => by
 obtain ⟨a1, a2, a3, -⟩ := c1 i (by omega);obtain ⟨b1, b2, b3, -⟩ := c2 i (by omega)
 exact ⟨by rw [a1, b1], by rw [a2, b2], by show _ = _; rw [a3.2, b3.2], trivial⟩
theorem inothing_any {a : Option Addr} {w : World} :
  Calls Tryz.prog 111 #[resP c a n cap] w fun e w' => e = .returned (.bool (decide (c = 0) && decide (n = 0))) /\ Below w.heap.size w w' := by
 have B0 := (Below.refl w.heap.size w).alloc (qH _) (.cells #[.int .i64 c, .slice a n cap] 55)
 by_cases h : c = 0
 ·subst h;have e2 : ((n : Int) == 0) = decide (n = 0) := by by_cases hn : n = 0 <;> simp [hn]
  go_enter Tryz.func111, Tryz.ntmps111
  go_wp2
  go_ret
  exact ⟨ret_bool (by simp), B0⟩
 have h' : (c == 0) = false := by simpa using h
 go_enter Tryz.func111, Tryz.ntmps111
 go_wp2
 go_ret
 exact ⟨ret_bool (by simp [h]), B0⟩
theorem idone_any {s : Int} {a : Option Addr} (zs : List Int) {w : World} (hC : Ints w a n zs) (hn : n <= 1048576) (hT : Lib.TabBelow Tryz.prog w.heap.size w "internal/strconv.uint64pow10" .u64 Lib.pow10Tab) :
  Calls Tryz.prog 82 #[doV s c a n cap] w fun e w' => e = .returned (.bool (dnOk s c n zs)) /\ Below w.heap.size w w' := by
 have HT : Hid _ := hT;clear hT;have n0 := Cel.new w [.int .i64 s, .int .i64 c, .slice a n cap] 89;have B0 := (Below.refl w.heap.size w).alloc (qH _) (.cells #[.int .i64 s, .int .i64 c, .slice a n cap] 89)
 by_cases h : s = 0
 ·subst h
  go_enter Tryz.func82, Tryz.ntmps82
  go_wp2_with fail
  refine (inothing_any).mono ?_;rintro e w1 ⟨rfl, b1⟩
  go_wp2
  go_ret
  exact ⟨ret_bool (by rw [dn_zero]), btr B0 b1⟩
 have h' : (s == 0) = false := by simpa using h
 have HS : Hid (s ≠ 0) := h;clear h;obtain ⟨x1, hx1⟩ : ∃ y, y = betB 1 300 [s] := ⟨_, rfl⟩
 have H1 : Hid _ := hx1;clear hx1;have HB : Hid (dnOk s c n zs = (x1 && fullB (resText c n zs))) := by show _ = _; rw [dn_some HS.out, H1.out, bet_one]
 have B1 := B0.alloc B0.size (.cells #[.int .i64 s] 3)
 go_enter Tryz.func82, Tryz.ntmps82
 go_wp2_with fail
 refine (between_any [s] _ _ (by have := one_ints (w.alloc (.cells #[.int .i64 s, .int .i64 c, .slice a n cap] 89)) s 3; rw [World.size_alloc] at this; exact this) (by omega)).mono ?_;rintro e w1 ⟨rfl, rfl⟩;rw [<- H1.out]
 cases x1
 ·go_wp2
  go_ret
  exact ⟨ret_bool (by rw [HB.out]; rfl), B1⟩
 go_wp2_with fail
 refine (iresok_any zs (hC.below B1) hn (fun w' h' => HT.out w' (btr B1 h'))).mono ?_;rintro e w1 ⟨rfl, b1⟩
 go_wp2
 go_ret
 exact ⟨ret_bool (by rw [HB.out]; rfl), btr B1 b1⟩
theorem idones_any {ad : Option Addr} {ga : Option Addr} {gn gc : Nat} {sa : Option Addr} {sn sc : Nat} {da : Option Addr} {dn dc : Nat} (fs : List DV) {w : World} (hN : fs.length = dn) (hF : DSG w da fs) (hz : dn <= 1048576) (hT : Lib.TabBelow Tryz.prog w.heap.size w "internal/strconv.uint64pow10" .u64 Lib.pow10Tab) :
  Calls Tryz.prog 48 #[plV cl ad N cap ga gn gc sa sn sc, .slice da dn dc] w fun e w' => e = .returned (.bool (donesB cl dn fs)) /\ Below w.heap.size w w' := by
 have HT : Hid _ := hT;have HN : Hid (fs.length = dn) := hN;clear hT hN;have B0 := (Below.refl w.heap.size w).alloc (qH _) (.cells #[.int .i64 cl, .slice ad N cap, .slice ga gn gc, .slice sa sn sc] 37)
 by_cases hc : (dn : Int) = cl
 ·have hc' : ((dn : Int) != cl) = false := by simpa using hc
  have HC : Hid _ := hc;clear hc
  go_enter Tryz.func48, Tryz.ntmps48
  go_wp2_with fail
  obtain ⟨W0, hW0⟩ : ∃ W, W = w.alloc (.cells #[.int .i64 cl, .slice ad N cap, .slice ga gn gc, .slice sa sn sc] 37) := ⟨_, rfl⟩
  rw [<- hW0] at B0 ⊢;clear hW0
  go_loopw [6, 14] (fun _ i wr => ∃ k : Nat, k <= dn /\ i = .int .i64 k /\ Below w.heap.size w wr /\ (fs.take k).all DV.ok = true) (fun _ i _ => dn - (intOf i).toNat)
  case atStart => exact ⟨0, Nat.zero_le _, rfl, B0, rfl⟩
  case round =>
   obtain ⟨k, hk, rfl, hb, hall⟩ := hrel;have HA : Hid _ := hall;clear hall
   by_cases hlt : k < dn
   ·obtain ⟨b, off, rfl, hc, hr⟩ := (hF.below hb) k (by rw [HN.out]; exact hlt);generalize HG : fs[k]?.getD noD = g at *;have HG' : Hid (fs[k]?.getD noD = g) := HG;clear HG hF;obtain ⟨e0, e1, e2⟩ := cellsD hc;obtain ⟨gs, gc, ⟨gta, gtn, gtc, gtx⟩⟩ := g;have e0' : wr.cell? ⟨b, off + k * 3, none⟩ = some (.int .i64 gs) := e0;have e1' : wr.cell? ⟨b, off + k * 3 + 1, none⟩ = some (.int .i64 gc) := e1;have e2' : wr.cell? ⟨b, off + k * 3 + 2, none⟩ = some (.slice gta gtn gtc) := e2;have hI : Ints wr gta gtn gtx := hr.1.1;have hz' : gtn <= 1048576 := hr.1.2;clear e0 e1 e2 hc hr;have hlt' : (k : Int) < (dn : Int) := by omega
    have bA := hb.alloc hb.size (.cells #[.int .i64 gs, .int .i64 gc, .slice gta gtn gtc] 89)
    go_wp2_with fail
    refine (idone_any gtx (hI.alloc _) hz' (fun w' h' => HT.out w' (btr bA h'))).mono ?_;rintro e w1 ⟨rfl, b1⟩;have hb1 := btr bA b1
    cases hd : dnOk gs gc gtn gtx
    ·go_wp2
     go_ret
     exact ⟨ret_bool (by rw [dones_is HC.out, dones_no (by rw [HN.out]; exact hlt) (by rw [HG'.out]; exact hd)]), hb1⟩
    go_wp2
    go_roundw
    case rel => exact ⟨k + 1, by omega, by go_num, hb1, dones_step (by rw [HN.out]; exact hlt) HA.out (by rw [HG'.out]; exact hd)⟩
    case measure => simp [intOf]; omega
   go_wp2
   go_ret
   exact ⟨ret_bool (by rw [dones_is HC.out, dones_end (by rw [HN.out]; omega) HA.out]), hb⟩
 have hc' : ((dn : Int) != cl) = true := by simpa using hc
 go_enter Tryz.func48, Tryz.ntmps48
 go_wp2
 go_ret
 exact ⟨ret_bool (by rw [dones_not hc]), B0⟩
theorem sdones_any {ad : Option Addr} {ga : Option Addr} {gn gc : Nat} {sa : Option Addr} {sn sc : Nat} {da : Option Addr} {dn dc : Nat} (fs : List DV) {w : World} (hN : fs.length = dn) (hF : DSG w da fs) (hz : dn <= 1048576) :
  Calls Tryz.prog 66 #[plV cl ad N cap ga gn gc sa sn sc, .slice da dn dc] w fun e w' => e = .returned (.bool (donesB cl dn fs)) /\ Below w.heap.size w w' := by
 have HN : Hid (fs.length = dn) := hN;clear hN;have B0 := (Below.refl w.heap.size w).alloc (qH _) (.cells #[.int .i64 cl, .slice ad N cap, .slice ga gn gc, .slice sa sn sc] 37)
 by_cases hc : (dn : Int) = cl
 ·have hc' : ((dn : Int) != cl) = false := by simpa using hc
  have HC : Hid _ := hc;clear hc
  go_enter Tryz.func66, Tryz.ntmps66
  go_wp2_with fail
  obtain ⟨W0, hW0⟩ : ∃ W, W = w.alloc (.cells #[.int .i64 cl, .slice ad N cap, .slice ga gn gc, .slice sa sn sc] 37) := ⟨_, rfl⟩
  rw [<- hW0] at B0 ⊢;clear hW0
  go_loopw [5] (fun i wr => ∃ k : Nat, k <= dn /\ i = .int .i64 k /\ Below w.heap.size w wr /\ (fs.take k).all DV.ok = true) (fun i _ => dn - (intOf i).toNat)
  case atStart => exact ⟨0, Nat.zero_le _, rfl, B0, rfl⟩
  case round =>
   obtain ⟨k, hk, rfl, hb, hall⟩ := hrel;have HA : Hid _ := hall;clear hall
   by_cases hlt : k < dn
   ·obtain ⟨b, off, rfl, hc, hr⟩ := (hF.below hb) k (by rw [HN.out]; exact hlt);generalize HG : fs[k]?.getD noD = g at *;have HG' : Hid (fs[k]?.getD noD = g) := HG;clear HG hF;obtain ⟨e0, e1, e2⟩ := cellsD hc;obtain ⟨gs, gc, ⟨gta, gtn, gtc, gtx⟩⟩ := g;have e0' : wr.cell? ⟨b, off + k * 3, none⟩ = some (.int .i64 gs) := e0;have e1' : wr.cell? ⟨b, off + k * 3 + 1, none⟩ = some (.int .i64 gc) := e1;have e2' : wr.cell? ⟨b, off + k * 3 + 2, none⟩ = some (.slice gta gtn gtc) := e2;have hI : Ints wr gta gtn gtx := hr.1.1;have hz' : gtn <= 1048576 := hr.1.2;clear e0 e1 e2 hc hr;have hlt' : (k : Int) < (dn : Int) := by omega
    have OK : Hid ((fs[k]?.getD noD).ok = dnOk gs gc gtn gtx) := by show _ = _; rw [HG'.out]; rfl
    have NO : Hid (dnOk gs gc gtn gtx = false -> donesB cl dn fs = false) := fun hd => by rw [dones_is HC.out, dones_no (by rw [HN.out]; exact hlt) (by rw [OK.out]; exact hd)]
    have YES : Hid (dnOk gs gc gtn gtx = true -> (fs.take (k + 1)).all DV.ok = true) := fun hd => dones_step (by rw [HN.out]; exact hlt) HA.out (by rw [OK.out]; exact hd)
    cases h1 : inB gs 0 300
    ·have h1' := inB_not.1 h1;have ND : Hid (dnOk gs gc gtn gtx = false) := by show _ = _; rw [dn_some (by omega), inB_not.2 (by omega)]; rfl
     clear h1';have KP : Hid (∀ W, Below wr.heap.size wr W -> W.cell? ⟨b, off + k * 3, none⟩ = some (.int .i64 gs) /\ W.cell? ⟨b, off + k * 3 + 1, none⟩ = some (.int .i64 gc) /\ W.cell? ⟨b, off + k * 3 + 2, none⟩ = some (.slice gta gtn gtc)) := fun W hW => ⟨(hW.cell (p := ⟨b, off + k * 3, none⟩) (block_lt e0')).trans e0', (hW.cell (p := ⟨b, off + k * 3 + 1, none⟩) (block_lt e1')).trans e1', (hW.cell (p := ⟨b, off + k * 3 + 2, none⟩) (block_lt e2')).trans e2'⟩
     have hSS := And.intro (KP.out _ (Below.refl _ _).drew) True.intro;clear e0' e1' e2'
     go_upto_region 6 with fail
     refine wp_region_ends (fun w' => w'.cell? ⟨b, off + k * 3, none⟩ = some (.int .i64 gs) /\ w'.cell? ⟨b, off + k * 3 + 1, none⟩ = some (.int .i64 gc) /\ w'.cell? ⟨b, off + k * 3 + 2, none⟩ = some (.slice gta gtn gtc)) (fun _ => True) 57 (by kernel_rfl) ?_;refine tkl 0 rfl hSS ?_;refine tkl 1 rfl hSS ?_;refine tkl 2 rfl hSS ?_;refine tkl 3 rfl hSS ?_;simp only [Act.put, qA, qC, qB, qG, qF, qE];refine tkl 4 rfl hSS ?_;refine wo1 5 rfl fun K hK => ?_;go_simp;refine (in_any).mono ?_;rintro ee wq ⟨rfl, rfl⟩;rw [h1];(try dsimp only);refine kk0 hK (hSS.1) ?_;refine tkl 6 rfl hSS ?_;refine tkl 7 rfl hSS ?_;refine tku 8 rfl hSS ?_;refine tku 9 rfl hSS ?_;simp only [Act.put, qA, qC, qB, qG, qF, qE];refine tku 10 rfl hSS ?_;refine tku 11 rfl hSS ?_;refine tku 12 rfl hSS ?_;refine tku 13 rfl hSS ?_;simp only [Act.put, qA, qC, qB, qG, qF, qE];refine tku 14 rfl hSS ?_;refine tku 15 rfl hSS ?_;refine tku 16 rfl hSS ?_;refine tku 17 rfl hSS ?_;simp only [Act.put, qA, qC, qB, qG, qF, qE];refine tku 18 rfl hSS ?_;refine tku 19 rfl hSS ?_
     refine tku 20 rfl hSS ?_;refine tku 21 rfl hSS ?_;simp only [Act.put, qA, qC, qB, qG, qF, qE];refine tkl 22 rfl hSS ?_;refine tkl 23 rfl hSS ?_;refine tku 24 rfl hSS ?_;refine tku 25 rfl hSS ?_;simp only [Act.put, qA, qC, qB, qG, qF, qE];refine tku 26 rfl hSS ?_;refine tku 27 rfl hSS ?_;refine tku 28 rfl hSS ?_;refine tku 29 rfl hSS ?_;simp only [Act.put, qA, qC, qB, qG, qF, qE];refine tku 30 rfl hSS ?_;refine tku 31 rfl hSS ?_;refine tku 32 rfl hSS ?_;refine tku 33 rfl hSS ?_;simp only [Act.put, qA, qC, qB, qG, qF, qE];refine tku 34 rfl hSS ?_;refine tku 35 rfl hSS ?_;refine tku 36 rfl hSS ?_;refine tku 37 rfl hSS ?_;simp only [Act.put, qA, qC, qB, qG, qF, qE];refine tku 38 rfl hSS ?_;refine tku 39 rfl hSS ?_;refine tkl 40 rfl hSS ?_;refine tkl 41 rfl hSS ?_
     simp only [Act.put, qA, qC, qB, qG, qF, qE];refine tku 42 rfl hSS ?_;refine tku 43 rfl hSS ?_;refine tku 44 rfl hSS ?_;refine tku 45 rfl hSS ?_;simp only [Act.put, qA, qC, qB, qG, qF, qE];refine tku 46 rfl hSS ?_;refine tku 47 rfl hSS ?_;refine tku 48 rfl hSS ?_;refine tku 49 rfl hSS ?_;simp only [Act.put, qA, qC, qB, qG, qF, qE];refine tku 50 rfl hSS ?_;refine tku 51 rfl hSS ?_;refine tku 52 rfl hSS ?_;refine tku 53 rfl hSS ?_;simp only [Act.put, qA, qC, qB, qG, qF, qE];refine tku 54 rfl hSS ?_;refine tku 55 rfl hSS ?_;refine tku 56 rfl hSS ?_;refine wo1 57 rfl fun K hK => ?_;go_simp;refine kk0 hK (hSS.1) ?_;refine wod ?_ _;clear hSS
     go_wp2
     go_ret
     exact ⟨ret_bool (by rw [NO.out ND.out]), hb.drew⟩
    have h1' := inB_iff.1 h1
    by_cases hs : gs = 0
    ·subst hs
     by_cases hcd : gc = 0
     ·subst hcd
      by_cases hn : gtn = 0
      ·have ND : Hid (dnOk 0 0 gtn gtx = true) := by show _ = _; rw [dn_zero]; simp [hn]
       have hn3 : decide (0 < gtn) = false := by simp [hn]
       have hn4 : decide ((0 : Int) < (gtn : Int)) = false := by simp [hn]
       clear hn;have KP : Hid (∀ W, Below wr.heap.size wr W -> W.cell? ⟨b, off + k * 3, none⟩ = some (.int .i64 0) /\ W.cell? ⟨b, off + k * 3 + 1, none⟩ = some (.int .i64 0) /\ W.cell? ⟨b, off + k * 3 + 2, none⟩ = some (.slice gta gtn gtc)) := fun W hW => ⟨(hW.cell (p := ⟨b, off + k * 3, none⟩) (block_lt e0')).trans e0', (hW.cell (p := ⟨b, off + k * 3 + 1, none⟩) (block_lt e1')).trans e1', (hW.cell (p := ⟨b, off + k * 3 + 2, none⟩) (block_lt e2')).trans e2'⟩
       have hSS := And.intro (KP.out _ (Below.refl _ _).drew) True.intro;clear e0' e1' e2'
       go_upto_region 6 with fail
       refine wp_region_ends (fun w' => w'.cell? ⟨b, off + k * 3, none⟩ = some (.int .i64 0) /\ w'.cell? ⟨b, off + k * 3 + 1, none⟩ = some (.int .i64 0) /\ w'.cell? ⟨b, off + k * 3 + 2, none⟩ = some (.slice gta gtn gtc)) (fun _ => True) 57 (by kernel_rfl) ?_;refine tkl 0 rfl hSS ?_;refine tkl 1 rfl hSS ?_;refine tkl 2 rfl hSS ?_;refine tkl 3 rfl hSS ?_;simp only [Act.put, qA, qC, qB, qG, qF, qE];refine tkl 4 rfl hSS ?_;refine wo1 5 rfl fun K hK => ?_;go_simp;refine (in_any).mono ?_;rintro ee wq ⟨rfl, rfl⟩;rw [h1];(try dsimp only);refine kk0 hK (hSS.1) ?_;refine tkl 6 rfl hSS ?_;refine tkl 7 rfl hSS ?_;refine tkl 8 rfl hSS ?_;refine tkl 9 rfl hSS ?_;simp only [Act.put, qA, qC, qB, qG, qF, qE];refine tkl 10 rfl hSS ?_;refine tkl 11 rfl hSS ?_;refine tkl 12 rfl hSS ?_;refine tkl 13 rfl hSS ?_;simp only [Act.put, qA, qC, qB, qG, qF, qE];refine tkl 14 rfl hSS ?_;refine tkl 15 rfl hSS ?_;refine tkl 16 rfl hSS ?_;refine tkl 17 rfl hSS ?_;simp only [Act.put, qA, qC, qB, qG, qF, qE];refine tkl 18 rfl hSS ?_;refine tkl 19 rfl hSS ?_
       refine tkl 20 rfl hSS ?_;refine tkl 21 rfl hSS ?_;simp only [Act.put, qA, qC, qB, qG, qF, qE];refine tkl 22 rfl hSS ?_;refine tkl 23 rfl hSS ?_;refine tkl 24 rfl hSS ?_;refine tkl 25 rfl hSS ?_;simp only [Act.put, qA, qC, qB, qG, qF, qE];refine tkl 26 rfl hSS ?_;refine tkl 27 rfl hSS ?_;refine tkl 28 rfl hSS ?_;refine tkl 29 rfl hSS ?_;simp only [Act.put, qA, qC, qB, qG, qF, qE];refine tkl 30 rfl hSS ?_;refine tkl 31 rfl hSS ?_;refine tkl 32 rfl hSS ?_;refine tkl 33 rfl hSS ?_;simp only [Act.put, qA, qC, qB, qG, qF, qE];refine tkl 34 rfl hSS ?_;refine tkl 35 rfl hSS ?_;refine tkl 36 rfl hSS ?_;refine wo1 37 rfl fun K hK => ?_;go_simp;refine kk0 hK (hSS.1) ?_;refine tkl 38 rfl hSS ?_;refine tkl 39 rfl hSS ?_;refine tkl 40 rfl hSS ?_;refine tkl 41 rfl hSS ?_;simp only [Act.put, qA, qC, qB, qG, qF, qE];refine tkl 42 rfl hSS ?_;refine tkl 43 rfl hSS ?_;refine tkl 44 rfl hSS ?_;refine tkl 45 rfl hSS ?_
       simp only [Act.put, qA, qC, qB, qG, qF, qE];refine tkl 46 rfl hSS ?_;refine tkl 47 rfl hSS ?_;refine tkl 48 rfl hSS ?_;refine tku 49 rfl hSS ?_;simp only [Act.put, qA, qC, qB, qG, qF, qE];refine tku 50 rfl hSS ?_;refine tku 51 rfl hSS ?_;refine tku 52 rfl hSS ?_;refine tku 53 rfl hSS ?_;simp only [Act.put, qA, qC, qB, qG, qF, qE];refine tku 54 rfl hSS ?_;refine tku 55 rfl hSS ?_;refine tkl 56 rfl hSS ?_;refine wo1 57 rfl fun K hK => ?_;go_simp;refine kk0 hK (hSS.1) ?_;refine wod ?_ _;clear hSS
       go_wp2
       go_roundw
       case rel => exact ⟨k + 1, by omega, by go_num, hb.drew, YES.out ND.out⟩
       case measure => simp [intOf]; omega
      have ND : Hid (dnOk 0 0 gtn gtx = false) := by show _ = _; rw [dn_zero]; simp [hn]
      have hn3 : decide (0 < gtn) = true := by simp; omega
      have hn4 : decide ((0 : Int) < (gtn : Int)) = true := by simp; omega
      clear hn;have KP : Hid (∀ W, Below wr.heap.size wr W -> W.cell? ⟨b, off + k * 3, none⟩ = some (.int .i64 0) /\ W.cell? ⟨b, off + k * 3 + 1, none⟩ = some (.int .i64 0) /\ W.cell? ⟨b, off + k * 3 + 2, none⟩ = some (.slice gta gtn gtc)) := fun W hW => ⟨(hW.cell (p := ⟨b, off + k * 3, none⟩) (block_lt e0')).trans e0', (hW.cell (p := ⟨b, off + k * 3 + 1, none⟩) (block_lt e1')).trans e1', (hW.cell (p := ⟨b, off + k * 3 + 2, none⟩) (block_lt e2')).trans e2'⟩
      have hSS := And.intro (KP.out _ (Below.refl _ _).drew) True.intro;clear e0' e1' e2'
      go_upto_region 6 with fail
      refine wp_region_ends (fun w' => w'.cell? ⟨b, off + k * 3, none⟩ = some (.int .i64 0) /\ w'.cell? ⟨b, off + k * 3 + 1, none⟩ = some (.int .i64 0) /\ w'.cell? ⟨b, off + k * 3 + 2, none⟩ = some (.slice gta gtn gtc)) (fun _ => True) 57 (by kernel_rfl) ?_;refine tkl 0 rfl hSS ?_;refine tkl 1 rfl hSS ?_;refine tkl 2 rfl hSS ?_;refine tkl 3 rfl hSS ?_;simp only [Act.put, qA, qC, qB, qG, qF, qE];refine tkl 4 rfl hSS ?_;refine wo1 5 rfl fun K hK => ?_;go_simp;refine (in_any).mono ?_;rintro ee wq ⟨rfl, rfl⟩;rw [h1];(try dsimp only);refine kk0 hK (hSS.1) ?_;refine tkl 6 rfl hSS ?_;refine tkl 7 rfl hSS ?_;refine tkl 8 rfl hSS ?_;refine tkl 9 rfl hSS ?_;simp only [Act.put, qA, qC, qB, qG, qF, qE];refine tkl 10 rfl hSS ?_;refine tkl 11 rfl hSS ?_;refine tkl 12 rfl hSS ?_;refine tkl 13 rfl hSS ?_;simp only [Act.put, qA, qC, qB, qG, qF, qE];refine tkl 14 rfl hSS ?_;refine tkl 15 rfl hSS ?_;refine tkl 16 rfl hSS ?_;refine tkl 17 rfl hSS ?_;simp only [Act.put, qA, qC, qB, qG, qF, qE];refine tkl 18 rfl hSS ?_;refine tkl 19 rfl hSS ?_
      refine tkl 20 rfl hSS ?_;refine tkl 21 rfl hSS ?_;simp only [Act.put, qA, qC, qB, qG, qF, qE];refine tkl 22 rfl hSS ?_;refine tkl 23 rfl hSS ?_;refine tkl 24 rfl hSS ?_;refine tkl 25 rfl hSS ?_;simp only [Act.put, qA, qC, qB, qG, qF, qE];refine tkl 26 rfl hSS ?_;refine tkl 27 rfl hSS ?_;refine tkl 28 rfl hSS ?_;refine tkl 29 rfl hSS ?_;simp only [Act.put, qA, qC, qB, qG, qF, qE];refine tkl 30 rfl hSS ?_;refine tkl 31 rfl hSS ?_;refine tkl 32 rfl hSS ?_;refine tkl 33 rfl hSS ?_;simp only [Act.put, qA, qC, qB, qG, qF, qE];refine tkl 34 rfl hSS ?_;refine tkl 35 rfl hSS ?_;refine tkl 36 rfl hSS ?_;refine wo1 37 rfl fun K hK => ?_;go_simp;refine kk0 hK (hSS.1) ?_;refine tkl 38 rfl hSS ?_;refine tkl 39 rfl hSS ?_;refine tkl 40 rfl hSS ?_;refine tkl 41 rfl hSS ?_;simp only [Act.put, qA, qC, qB, qG, qF, qE];refine tku 42 rfl hSS ?_;refine tku 43 rfl hSS ?_;refine tku 44 rfl hSS ?_;refine tku 45 rfl hSS ?_
      simp only [Act.put, qA, qC, qB, qG, qF, qE];refine tku 46 rfl hSS ?_;refine tku 47 rfl hSS ?_;refine tku 48 rfl hSS ?_;refine tku 49 rfl hSS ?_;simp only [Act.put, qA, qC, qB, qG, qF, qE];refine tku 50 rfl hSS ?_;refine tku 51 rfl hSS ?_;refine tku 52 rfl hSS ?_;refine tku 53 rfl hSS ?_;simp only [Act.put, qA, qC, qB, qG, qF, qE];refine tku 54 rfl hSS ?_;refine tku 55 rfl hSS ?_;refine tku 56 rfl hSS ?_;refine wo1 57 rfl fun K hK => ?_;go_simp;refine kk0 hK (hSS.1) ?_;refine wod ?_ _;clear hSS
      go_wp2
      go_ret
      exact ⟨ret_bool (by rw [NO.out ND.out]), hb.drew⟩
     have ND : Hid (dnOk 0 gc gtn gtx = false) := by show _ = _; rw [dn_zero]; simp [hcd]
     have hcd' : (gc == 0) = false := by simpa using hcd
     have KP : Hid (∀ W, Below wr.heap.size wr W -> W.cell? ⟨b, off + k * 3, none⟩ = some (.int .i64 0) /\ W.cell? ⟨b, off + k * 3 + 1, none⟩ = some (.int .i64 gc) /\ W.cell? ⟨b, off + k * 3 + 2, none⟩ = some (.slice gta gtn gtc)) := fun W hW => ⟨(hW.cell (p := ⟨b, off + k * 3, none⟩) (block_lt e0')).trans e0', (hW.cell (p := ⟨b, off + k * 3 + 1, none⟩) (block_lt e1')).trans e1', (hW.cell (p := ⟨b, off + k * 3 + 2, none⟩) (block_lt e2')).trans e2'⟩
     have hSS := And.intro (KP.out _ (Below.refl _ _).drew) True.intro;clear e0' e1' e2'
     go_upto_region 6 with fail
     refine wp_region_ends (fun w' => w'.cell? ⟨b, off + k * 3, none⟩ = some (.int .i64 0) /\ w'.cell? ⟨b, off + k * 3 + 1, none⟩ = some (.int .i64 gc) /\ w'.cell? ⟨b, off + k * 3 + 2, none⟩ = some (.slice gta gtn gtc)) (fun _ => True) 57 (by kernel_rfl) ?_;refine tkl 0 rfl hSS ?_;refine tkl 1 rfl hSS ?_;refine tkl 2 rfl hSS ?_;refine tkl 3 rfl hSS ?_;simp only [Act.put, qA, qC, qB, qG, qF, qE];refine tkl 4 rfl hSS ?_;refine wo1 5 rfl fun K hK => ?_;go_simp;refine (in_any).mono ?_;rintro ee wq ⟨rfl, rfl⟩;rw [h1];(try dsimp only);refine kk0 hK (hSS.1) ?_;refine tkl 6 rfl hSS ?_;refine tkl 7 rfl hSS ?_;refine tkl 8 rfl hSS ?_;refine tkl 9 rfl hSS ?_;simp only [Act.put, qA, qC, qB, qG, qF, qE];refine tkl 10 rfl hSS ?_;refine tkl 11 rfl hSS ?_;refine tkl 12 rfl hSS ?_;refine tkl 13 rfl hSS ?_;simp only [Act.put, qA, qC, qB, qG, qF, qE];refine tkl 14 rfl hSS ?_;refine tkl 15 rfl hSS ?_;refine tkl 16 rfl hSS ?_;refine tkl 17 rfl hSS ?_;simp only [Act.put, qA, qC, qB, qG, qF, qE];refine tkl 18 rfl hSS ?_;refine tkl 19 rfl hSS ?_
     refine tkl 20 rfl hSS ?_;refine tkl 21 rfl hSS ?_;simp only [Act.put, qA, qC, qB, qG, qF, qE];refine tkl 22 rfl hSS ?_;refine tkl 23 rfl hSS ?_;refine tku 24 rfl hSS ?_;refine tku 25 rfl hSS ?_;simp only [Act.put, qA, qC, qB, qG, qF, qE];refine tku 26 rfl hSS ?_;refine tku 27 rfl hSS ?_;refine tku 28 rfl hSS ?_;refine tku 29 rfl hSS ?_;simp only [Act.put, qA, qC, qB, qG, qF, qE];refine tku 30 rfl hSS ?_;refine tku 31 rfl hSS ?_;refine tku 32 rfl hSS ?_;refine tku 33 rfl hSS ?_;simp only [Act.put, qA, qC, qB, qG, qF, qE];refine tku 34 rfl hSS ?_;refine tku 35 rfl hSS ?_;refine tku 36 rfl hSS ?_;refine tku 37 rfl hSS ?_;simp only [Act.put, qA, qC, qB, qG, qF, qE];refine tku 38 rfl hSS ?_;refine tku 39 rfl hSS ?_;refine tkl 40 rfl hSS ?_;refine tkl 41 rfl hSS ?_
     simp only [Act.put, qA, qC, qB, qG, qF, qE];refine tku 42 rfl hSS ?_;refine tku 43 rfl hSS ?_;refine tku 44 rfl hSS ?_;refine tku 45 rfl hSS ?_;simp only [Act.put, qA, qC, qB, qG, qF, qE];refine tku 46 rfl hSS ?_;refine tku 47 rfl hSS ?_;refine tku 48 rfl hSS ?_;refine tku 49 rfl hSS ?_;simp only [Act.put, qA, qC, qB, qG, qF, qE];refine tku 50 rfl hSS ?_;refine tku 51 rfl hSS ?_;refine tku 52 rfl hSS ?_;refine tku 53 rfl hSS ?_;simp only [Act.put, qA, qC, qB, qG, qF, qE];refine tku 54 rfl hSS ?_;refine tku 55 rfl hSS ?_;refine tku 56 rfl hSS ?_;refine wo1 57 rfl fun K hK => ?_;go_simp;refine kk0 hK (hSS.1) ?_;refine wod ?_ _;clear hSS
     go_wp2
     go_ret
     exact ⟨ret_bool (by rw [NO.out ND.out]), hb.drew⟩
    have hs' : (gs == 0) = false := by simpa using hs
    have hp : decide (0 < gs) = true := by simp; omega
    have ND : Hid (dnOk gs gc gtn gtx = fullB (resText gc gtn gtx)) := by show _ = _; rw [dn_some hs, inB_iff.2 (by omega)]; rfl
    clear hs h1'
    by_cases hcd : gc = 0
    ·subst hcd
     have ND2 : Hid (dnOk gs 0 gtn gtx = false) := by
      show _ = _
      rw [ND.out]
      cases hf : fullB (resText 0 gtn gtx)
      ·rfl
      exact absurd rfl (full_code hf)
     have KP : Hid (∀ W, Below wr.heap.size wr W -> W.cell? ⟨b, off + k * 3, none⟩ = some (.int .i64 gs) /\ W.cell? ⟨b, off + k * 3 + 1, none⟩ = some (.int .i64 0) /\ W.cell? ⟨b, off + k * 3 + 2, none⟩ = some (.slice gta gtn gtc)) := fun W hW => ⟨(hW.cell (p := ⟨b, off + k * 3, none⟩) (block_lt e0')).trans e0', (hW.cell (p := ⟨b, off + k * 3 + 1, none⟩) (block_lt e1')).trans e1', (hW.cell (p := ⟨b, off + k * 3 + 2, none⟩) (block_lt e2')).trans e2'⟩
     have hSS := And.intro (KP.out _ (Below.refl _ _).drew) True.intro;clear e0' e1' e2'
     go_upto_region 6 with fail
     refine wp_region_ends (fun w' => w'.cell? ⟨b, off + k * 3, none⟩ = some (.int .i64 gs) /\ w'.cell? ⟨b, off + k * 3 + 1, none⟩ = some (.int .i64 0) /\ w'.cell? ⟨b, off + k * 3 + 2, none⟩ = some (.slice gta gtn gtc)) (fun _ => True) 57 (by kernel_rfl) ?_;refine tkl 0 rfl hSS ?_;refine tkl 1 rfl hSS ?_;refine tkl 2 rfl hSS ?_;refine tkl 3 rfl hSS ?_;simp only [Act.put, qA, qC, qB, qG, qF, qE];refine tkl 4 rfl hSS ?_;refine wo1 5 rfl fun K hK => ?_;go_simp;refine (in_any).mono ?_;rintro ee wq ⟨rfl, rfl⟩;rw [h1];(try dsimp only);refine kk0 hK (hSS.1) ?_;refine tkl 6 rfl hSS ?_;refine tkl 7 rfl hSS ?_;refine tkl 8 rfl hSS ?_;refine tkl 9 rfl hSS ?_;simp only [Act.put, qA, qC, qB, qG, qF, qE];refine tkl 10 rfl hSS ?_;refine tkl 11 rfl hSS ?_;refine tkl 12 rfl hSS ?_;refine tkl 13 rfl hSS ?_;simp only [Act.put, qA, qC, qB, qG, qF, qE];refine tkl 14 rfl hSS ?_;refine tkl 15 rfl hSS ?_;refine tkl 16 rfl hSS ?_;refine tkl 17 rfl hSS ?_;simp only [Act.put, qA, qC, qB, qG, qF, qE];refine tkl 18 rfl hSS ?_;refine tkl 19 rfl hSS ?_
     refine tkl 20 rfl hSS ?_;refine tkl 21 rfl hSS ?_;simp only [Act.put, qA, qC, qB, qG, qF, qE];refine tkl 22 rfl hSS ?_;refine tkl 23 rfl hSS ?_;refine tku 24 rfl hSS ?_;refine tku 25 rfl hSS ?_;simp only [Act.put, qA, qC, qB, qG, qF, qE];refine tku 26 rfl hSS ?_;refine tku 27 rfl hSS ?_;refine tku 28 rfl hSS ?_;refine tku 29 rfl hSS ?_;simp only [Act.put, qA, qC, qB, qG, qF, qE];refine tku 30 rfl hSS ?_;refine tku 31 rfl hSS ?_;refine tku 32 rfl hSS ?_;refine tku 33 rfl hSS ?_;simp only [Act.put, qA, qC, qB, qG, qF, qE];refine tku 34 rfl hSS ?_;refine tku 35 rfl hSS ?_;refine tku 36 rfl hSS ?_;refine tku 37 rfl hSS ?_;simp only [Act.put, qA, qC, qB, qG, qF, qE];refine tku 38 rfl hSS ?_;refine tku 39 rfl hSS ?_;refine tkl 40 rfl hSS ?_;refine tkl 41 rfl hSS ?_
     simp only [Act.put, qA, qC, qB, qG, qF, qE];refine tku 42 rfl hSS ?_;refine tku 43 rfl hSS ?_;refine tku 44 rfl hSS ?_;refine tku 45 rfl hSS ?_;simp only [Act.put, qA, qC, qB, qG, qF, qE];refine tku 46 rfl hSS ?_;refine tku 47 rfl hSS ?_;refine tku 48 rfl hSS ?_;refine tku 49 rfl hSS ?_;simp only [Act.put, qA, qC, qB, qG, qF, qE];refine tku 50 rfl hSS ?_;refine tku 51 rfl hSS ?_;refine tku 52 rfl hSS ?_;refine tku 53 rfl hSS ?_;simp only [Act.put, qA, qC, qB, qG, qF, qE];refine tku 54 rfl hSS ?_;refine tku 55 rfl hSS ?_;refine tku 56 rfl hSS ?_;refine wo1 57 rfl fun K hK => ?_;go_simp;refine kk0 hK (hSS.1) ?_;refine wod ?_ _;clear hSS
     go_wp2
     go_ret
     exact ⟨ret_bool (by rw [NO.out ND2.out]), hb.drew⟩
    have hcd' : (gc == 0) = false := by simpa using hcd
    obtain ⟨x, hx⟩ : ∃ x, x = fullB (resText gc gtn gtx) := ⟨_, rfl⟩
    have HX : Hid _ := hx;clear hx hcd;have KP : Hid (∀ W, Below wr.heap.size wr W -> W.cell? ⟨b, off + k * 3, none⟩ = some (.int .i64 gs) /\ W.cell? ⟨b, off + k * 3 + 1, none⟩ = some (.int .i64 gc) /\ W.cell? ⟨b, off + k * 3 + 2, none⟩ = some (.slice gta gtn gtc)) := fun W hW => ⟨(hW.cell (p := ⟨b, off + k * 3, none⟩) (block_lt e0')).trans e0', (hW.cell (p := ⟨b, off + k * 3 + 1, none⟩) (block_lt e1')).trans e1', (hW.cell (p := ⟨b, off + k * 3 + 2, none⟩) (block_lt e2')).trans e2'⟩
    have hSS := And.intro (KP.out _ (Below.refl _ _).drew) True.intro;clear e0' e1' e2'
    go_upto_region 6 with fail
    refine wp_region_ends (fun w' => w'.cell? ⟨b, off + k * 3, none⟩ = some (.int .i64 gs) /\ w'.cell? ⟨b, off + k * 3 + 1, none⟩ = some (.int .i64 gc) /\ w'.cell? ⟨b, off + k * 3 + 2, none⟩ = some (.slice gta gtn gtc)) (fun _ => True) 57 (by kernel_rfl) ?_;refine tkl 0 rfl hSS ?_;refine tkl 1 rfl hSS ?_;refine tkl 2 rfl hSS ?_;refine tkl 3 rfl hSS ?_;simp only [Act.put, qA, qC, qB, qG, qF, qE];refine tkl 4 rfl hSS ?_;refine wo1 5 rfl fun K hK => ?_;go_simp;refine (in_any).mono ?_;rintro ee wq ⟨rfl, rfl⟩;rw [h1];(try dsimp only);refine kk0 hK (hSS.1) ?_;refine tkl 6 rfl hSS ?_;refine tkl 7 rfl hSS ?_;refine tkl 8 rfl hSS ?_;refine tkl 9 rfl hSS ?_;simp only [Act.put, qA, qC, qB, qG, qF, qE];refine tkl 10 rfl hSS ?_;refine tkl 11 rfl hSS ?_;refine tkl 12 rfl hSS ?_;refine tkl 13 rfl hSS ?_;simp only [Act.put, qA, qC, qB, qG, qF, qE];refine tkl 14 rfl hSS ?_;refine tkl 15 rfl hSS ?_;refine tkl 16 rfl hSS ?_;refine tkl 17 rfl hSS ?_;simp only [Act.put, qA, qC, qB, qG, qF, qE];refine tkl 18 rfl hSS ?_;refine tkl 19 rfl hSS ?_
    refine tkl 20 rfl hSS ?_;refine tkl 21 rfl hSS ?_;simp only [Act.put, qA, qC, qB, qG, qF, qE];refine tkl 22 rfl hSS ?_;refine tkl 23 rfl hSS ?_;refine tkl 24 rfl hSS ?_;refine tkl 25 rfl hSS ?_;simp only [Act.put, qA, qC, qB, qG, qF, qE];refine tkl 26 rfl hSS ?_;refine tkl 27 rfl hSS ?_;refine tkl 28 rfl hSS ?_;refine tkl 29 rfl hSS ?_;simp only [Act.put, qA, qC, qB, qG, qF, qE];refine tkl 30 rfl hSS ?_;refine tku 31 rfl hSS ?_;refine tku 32 rfl hSS ?_;refine tku 33 rfl hSS ?_;simp only [Act.put, qA, qC, qB, qG, qF, qE];refine tku 34 rfl hSS ?_;refine tku 35 rfl hSS ?_;refine tku 36 rfl hSS ?_;refine tku 37 rfl hSS ?_;simp only [Act.put, qA, qC, qB, qG, qF, qE];refine tku 38 rfl hSS ?_;refine tkl 39 rfl hSS ?_;refine tkl 40 rfl hSS ?_;refine tkl 41 rfl hSS ?_;simp only [Act.put, qA, qC, qB, qG, qF, qE]
    refine tkl 42 rfl hSS ?_;refine tkl 43 rfl hSS ?_;refine tkl 44 rfl hSS ?_;refine tkl 45 rfl hSS ?_;simp only [Act.put, qA, qC, qB, qG, qF, qE];refine tkl 46 rfl hSS ?_;refine tkl 47 rfl hSS ?_;refine tkl 48 rfl hSS ?_;refine tkl 49 rfl hSS ?_;simp only [Act.put, qA, qC, qB, qG, qF, qE];refine tkl 50 rfl hSS ?_;refine tkl 51 rfl hSS ?_;refine tkl 52 rfl hSS ?_;refine tkl 53 rfl hSS ?_;simp only [Act.put, qA, qC, qB, qG, qF, qE];refine wo1 54 rfl fun K hK => ?_;go_simp;refine (sresok_any gtx (hI.below (Below.refl _ _).drew) hz').mono ?_;rintro ee w1 ⟨rfl, bd1⟩;rw [<- HX.out];have b1 := below_of_drew bd1;have hb1 := btr hb b1;(try dsimp only);replace hSS := And.intro (KP.out w1 b1) True.intro;refine kk0 hK (hSS.1) ?_;refine tkl 55 rfl hSS ?_;refine tkl 56 rfl hSS ?_;refine wo1 57 rfl fun K hK => ?_;go_simp;refine kk0 hK (hSS.1) ?_;refine wod ?_ _;clear hSS
    cases x
    ·go_wp2
     go_ret
     exact ⟨ret_bool (by rw [NO.out (by rw [ND.out, <- HX.out])]), hb1⟩
    go_wp2
    go_roundw
    case rel => exact ⟨k + 1, by omega, by go_num, hb1, YES.out (by rw [ND.out, <- HX.out])⟩
    case measure => simp [intOf]; omega
   go_wp2
   go_ret
   exact ⟨ret_bool (by rw [dones_is HC.out, dones_end (by rw [HN.out]; omega) HA.out]), hb⟩
 have hc' : ((dn : Int) != cl) = true := by simpa using hc
 go_enter Tryz.func66, Tryz.ntmps66
 go_wp2
 go_ret
 exact ⟨ret_bool (by rw [dones_not hc]), B0⟩
end Go.Proofs.YtfmpcihghlnlnaaGreatDoor
