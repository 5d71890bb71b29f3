/-
  For all bytes FnSitNew returns true, and what came in reads behind the call as it did. The library's tables that are listed are as its text lays them; no other condition. (in the beginning all are alike)
-/
import Derived.Test.YtpmihhbgjimpmaaGreatDoorTie
import Derived.Test.YtpmihhbgjimpmaaGreatDoorCards
import Derived.Stop.LaidErr
import Derived.Lib.LaidTab
import Derived.LaidMore
import Derived.Lay
import Derived.SevenTiedAt
import Derived.Stop.Joined
import Derived.Test.YtpmihhbgjimpmaaGreatDoorNxV
namespace Go.Proofs.YtpmihhbgjimpmaaGreatDoor.fnSitNew
set_option maxHeartbeats 25600000
open Go.ChangeShapes Go.WideShapes Go.ChangeAt Go.RowKit Go.Deep Go.Joins
set_option linter.unusedVariables false
set_option maxRecDepth 100000
theorem open_bytesT {H : Type} {enc : TypeId × Value → H} {W : World} {r : Reach} {b0 : Nat} {v : Value} {d : DataW H} {p : List MemPlace}
  (hv : Value.okWide Tryz.prog W r b0 22 v) (h : DataW.Trod enc Tryz.prog W 0 (fun _ => true) true 22 v d p) : ∃ a n cap zs, v = .slice a n cap ∧ BInts W a n zs ∧ (n ≤ cap ∧ cap ≤ maxLen) := by
 obtain ⟨a0, len0, cap0, rfl⟩ := okWide_slice Tryz.underlying22 hv;obtain ⟨fuel, hf⟩ := h
 rcases open_ints Tryz.underlying22 Tryz.underlying5 (by kernel_rfl) hf with ⟨hcs, _⟩ | ⟨x, l, c, zs, hcs, _, hl, hm, hz, _, hcell, hwz⟩
 ·simp [Value.cells] at hcs;obtain ⟨rfl, rfl, rfl⟩ := hcs
  exact ⟨none, 0, 0, [], rfl, ⟨rfl, fun i hi => by omega, fun i => by simp⟩, by omega, by unfold maxLen; omega⟩
 simp [Value.cells] at hcs;obtain ⟨rfl, rfl, rfl⟩ := hcs;have hz' : zs.length = cap0 := by simpa using hz
 refine ⟨some x, len0, cap0, zs.take len0, rfl, ⟨by rw [List.length_take]; omega, fun i hi => ?_, fun i => ?_⟩, hl, hm⟩
 ·obtain ⟨b, off, spot⟩ := x;have hc0 := hcell 0 (by omega);have hspot : spot = none := by simpa [Addr.add] using World.cell?_spot hc0
  subst hspot;refine ⟨b, off, rfl, ?_⟩;have hc := hcell i (by omega)
  have : W.cell? ⟨b, off + i, none⟩ = some (.int .u8 (zs.getD i 0)) := by
   by_cases h0 : i = 0
   ·subst h0; simpa [Addr.add] using hc
   simpa [Addr.add, h0] using hc
  rw [this];simp [hi]
 by_cases hi : i < (zs.take len0).length
 ·rw [List.getElem?_eq_getElem hi];have := hwz _ (List.mem_of_mem_take (List.getElem_mem hi));simpa [Lit.wf, IntKind.min, IntKind.max, IntKind.signed, IntKind.bits] using this
 rw [List.getElem?_eq_none (by omega)];simp
theorem foldl_inv {α : Type} {P : List (List Int) → Prop} {f : List (List Int) → α → List (List Int)} : ∀ (xs : List α) (ps : List (List Int)), (∀ ps a, a ∈ xs → P ps → P (f ps a)) → P ps → P (xs.foldl f ps)
 | [], ps, _, h => h
 | a :: xs, ps, hf, h => foldl_inv xs (f ps a) (fun ps b hb => hf ps b (List.mem_cons_of_mem _ hb)) (hf ps a (by simp) h)
def PartOk (ps : List (List Int)) : Prop := ∀ p ∈ ps, p.length = 3 ∧ bnd 10000000 p
theorem partL_bnd {FC : List Int} (hl : FC.length = 3) (b : bnd 10000000 FC) : (partL FC).length = 3 ∧ bnd 10000000 (partL FC) := by
 match FC, hl with
 | [x0, x1, x2], _ =>
  have b0 := b 0;have b1 := b 1;have b2 := b 2;simp only [List.getElem?_cons_zero, List.getElem?_cons_succ, Option.getD_some] at b0 b1 b2;have hs : sg [x0, x1, x2] = 1 ∨ sg [x0, x1, x2] = -1 := by unfold sg; split <;> simp
  have e : partL [x0, x1, x2] = [wrap64 (sg [x0, x1, x2] * x0), wrap64 (sg [x0, x1, x2] * x1), wrap64 (sg [x0, x1, x2] * x2)] := rfl;rw [e];generalize sg [x0, x1, x2] = g at *;refine ⟨rfl, fun i => ?_⟩
  rcases hs with rfl | rfl
  iterate 2
   ·rw [IntWalk.wrap64_in _ ⟨by omega, by omega⟩, IntWalk.wrap64_in _ ⟨by omega, by omega⟩, IntWalk.wrap64_in _ ⟨by omega, by omega⟩]
    rcases i with _ | _ | _ | i <;> simp <;> omega
theorem addPb_ok {ps : List (List Int)} {p : List Int} (h : PartOk ps) (hp : p.length = 3 ∧ bnd 10000000 p) : PartOk (addPb ps p) := by
 intro q hq;unfold addPb at hq
 split at hq
 ·exact h q hq
 rcases List.mem_append.1 hq with hq | hq
 ·exact h q hq
 simp only [List.mem_singleton] at hq;subst hq; exact hp
theorem catP_ok {ss : List L2V} (hfit : ∀ a ∈ ss, ∀ r ∈ rowsL a.x, RowFit r) : PartOk (catP ss) := by
 unfold catP actsP;refine foldl_inv ss pots3 (fun ps a ha hps => ?_) ?_
 ·unfold rowsP;refine foldl_inv (rowsL a.x) ps (fun ps r hr hps => ?_) hps;unfold guardsP;refine foldl_inv r.guards ps (fun ps g hg hps => ?_) hps;obtain ⟨j, hj, rfl⟩ := List.mem_iff_getElem.1 hg;have hf := (hfit a ha r hr).g j hj;rw [List.getElem?_eq_getElem hj, Option.getD_some] at hf
  exact addPb_ok hps (partL_bnd hf.c hf.bc)
 intro p hp;simp only [pots3, List.mem_cons, List.not_mem_nil, or_false] at hp
 rcases hp with rfl | rfl | rfl <;> refine ⟨rfl, fun i => ?_⟩ <;> rcases i with _ | _ | _ | i <;> simp
theorem bnd_allO {m : Int} {zs : List Int} (h : bnd m zs) : allB m zs = true := by
 unfold allB;rw [List.all_eq_true];intro z hz;obtain ⟨i, hi, rfl⟩ := List.mem_iff_getElem.1 hz;have := h i;rw [List.getElem?_eq_getElem hi] at this
 exact inB_iff.2 this
theorem dSitNew {a : Option Addr} {n cap : Nat} (bs : List Int) {w : World} (h : BInts w a n bs) (hn : n ≤ cap) (hn1 : n ≤ 1048576) (hc : cap ≤ maxLen) :
  Calls Tryz.prog 6 #[.slice a n cap] w fun e w' => ∃ cl ad N c ss ga gn gc G sa sn sc S, e = .returned (plV cl ad N c ga gn gc sa sn sc) ∧ Below w.heap.size w w' ∧ PlAt w' ad N ss ga gn G sa sn S := by
 have q0 := Cel.new w [.int .i64 0, .slice none 0 0, .slice none 0 0, .slice none 0 0] 26;have al := (Below.refl w.heap.size w).alloc (Nat.le_refl _) (.cells #[.int .i64 0, .slice none 0 0, .slice none 0 0, .slice none 0 0] 26)
 go_enter Tryz.func6, Tryz.ntmps6
 go_wp2_with fail
 refine (open_any bs (h.below al) hn hn1 hc).mono ?_;rintro e w1 ⟨R, n', cap2, bs', rfl, b1, hR, r1⟩;rw [World.size_alloc] at hR;replace q0 := q0.below b1;have hw := q0.lt;have hRl := r1.c.lt
 go_wp2_with fail
 refine (anyplan_f R a n' cap2 bs' 0 6 r1 (by omega) (by omega) (by omega) (by omega) r1.ha).mono ?_;rintro e w3 ⟨cl, ad, N, c, ss, ga, gn, gc, G, sa, sn, sc, S, q, rfl, T, rd, PF, y0, y1⟩;replace q0 := q0.touch T (by omega);have BB : Below w.heap.size w w3 := (btr al b1).trans (T.below (by omega) (fun k hk => by omega));have e0 := q0.cell 0;have e1 := q0.cell 1;have e2 := q0.cell 2;have e3 := q0.cell 3;have f0 := q0.free 0;have f1 := q0.free 1;have f2 := q0.free 2;have f3 := q0.free 3;simp only [List.getElem?_cons_zero, List.getElem?_cons_succ] at e0 e1 e2 e3;have lq := q0.lt;clear rd r1 al b1
 go_wp2
 have TS : Touch (fun k => k = w.heap.size) w3 ((((w3.setCell ⟨w.heap.size, 0, none⟩ (.int .i64 cl)).setCell ⟨w.heap.size, 1, none⟩ (.slice ad N c)).setCell ⟨w.heap.size, 2, none⟩ (.slice ga gn gc)).setCell ⟨w.heap.size, 3, none⟩ (.slice sa sn sc)) := Touch.setCell (S := fun k => k = w.heap.size) (Touch.setCell (S := fun k => k = w.heap.size) (Touch.setCell (S := fun k => k = w.heap.size) (Touch.setCell (S := fun k => k = w.heap.size) (Touch.refl _ _) rfl _) rfl _) rfl _) rfl _;refine bodyPost_ret (v := plV cl ad N c ga gn gc sa sn sc) (by simp [results, Tryz.results6, go_sem, e0, e1, e2, e3]) rfl ⟨cl, ad, N, c, ss, ga, gn, gc, G, sa, sn, sc, S, rfl, (((BB.setCell (Nat.le_refl _) _).setCell (Nat.le_refl _) _).setCell (Nat.le_refl _) _).setCell (Nat.le_refl _) _, (PF.touch TS (fun k hk => by omega)).at⟩
def nB (b : Bool) (k : Nat) : Nat := if b then k else 0
def lB (b : Bool) (S : List Int) : List Int := if b then S else []
theorem sit_form {w w' : World} {e : Ending} {b : Bool} {cl : Int} {S : List Int} (h : SitR w w' e b cl S) : ∃ ba bc aa ac da B dc, e = .returned (sitV b false 0 ba (nB b 3) bc aa (nB b 3) ac da (nB b cl.toNat) dc) ∧ Below w.heap.size w w' ∧ Ints w' ba (nB b 3) (lB b S) ∧ Ints w' aa (nB b 3) (lB b [0, 0, 0]) ∧ DX w' da B (nB b cl.toNat) (fun _ => (0, 0)) ∧ nB b cl.toNat ≤ 4 := by
 obtain ⟨ba, B1, bc, aa, B2, ac, da, B3, dc, bn, an, dn, Bs, As, rfl, b1, x, -, -, -, rfl, rfl, rfl, rfl, rfl⟩ := h
 exact ⟨ba, bc, aa, ac, da, B3, dc, rfl, b1, x.o1.ints, x.o2.ints, x.d, x.z3⟩
theorem clk_form {w w' : World} {e : Ending} {b : Bool} {cl : Int} {gn : Nat} {S : List Int} (h : ClkR w w' e b cl gn S) : ∃ ba bc da B dc ga C gc, e = .returned (clkV b 0 ba (nB b 3) bc da (nB b cl.toNat) dc ga (nB b gn) gc) ∧ Below w.heap.size w w' ∧ Ints w' ba (nB b 3) (lB b S) ∧ DX w' da B (nB b cl.toNat) (fun _ => (0, 0)) ∧ GX w' ga C (nB b gn) (fun _ => false) ∧ nB b gn ≤ 3 := by
 obtain ⟨ba, B1, bc, da, B2, dc, ga, B3, gc, bn, dn, gn', Bs, rfl, b1, x, -, -, -, rfl, rfl, rfl, rfl⟩ := h
 exact ⟨ba, bc, da, B2, dc, ga, B3, gc, rfl, b1, x.o.ints, x.d, x.g, x.z3⟩
theorem DX.dsg {W : World} {a : Option Addr} {B n : Nat} (h : DX W a B n (fun _ => (0, 0))) : DSG W a (List.replicate n noD) := fun i hi => by
 have hi' : i < n := by simpa using hi
 obtain ⟨e, p0, p1, p2⟩ := h.cellsK hi';have eg : (List.replicate n noD)[i]?.getD noD = noD := by simp [hi']
 rw [eg];refine ⟨B, 0, e, fun r hr => ?_, ⟨⟨rfl, fun i hi => absurd hi (Nat.not_lt_zero _)⟩, by show 0 ≤ 1048576; omega⟩, trivial⟩;rw [Nat.zero_add]
 match r, hr with
 | 0, _ => exact p0
 | 1, _ => exact p1
 | 2, _ => exact p2
theorem GX.gsg {W : World} {a : Option Addr} {B n : Nat} (h : GX W a B n (fun _ => false)) : GSG W a (List.replicate n noG) := fun i hi => by
 have hi' : i < n := by simpa using hi
 obtain ⟨e, p0, p1, p2⟩ := h.cellsK hi';have eg : (List.replicate n noG)[i]?.getD noG = noG := by simp [hi']
 rw [eg];refine ⟨B, 0, e, fun r hr => ?_, ⟨⟨rfl, fun i hi => absurd hi (Nat.not_lt_zero _)⟩, by show 0 ≤ 1048576; omega⟩, ⟨⟨rfl, fun i hi => absurd hi (Nat.not_lt_zero _)⟩, by show 0 ≤ 1048576; omega⟩, trivial⟩;rw [Nat.zero_add]
 match r, hr with
 | 0, _ => exact p0
 | 1, _ => exact p1
 | 2, _ => exact p2
theorem dones_new {cl : Int} (h : 0 ≤ cl := by omega) : donesB cl cl.toNat (List.replicate cl.toNat noD) = true := by
 simp only [donesB, Bool.and_eq_true, decide_eq_true_eq];refine ⟨by omega, List.all_eq_true.2 fun x hx => ?_⟩;rw [List.eq_of_mem_replicate hx]
 rfl
theorem gots_new {cl : Int} {gn bn : Nat} {bx G : List Int} {T : List (List Int)} {R : Nat → Bool} : gotsB cl gn bn bx G T R gn (List.replicate gn noG) = true := by
 simp only [gotsB, gotsTo, Bool.and_eq_true, decide_true, true_and, List.all_eq_true, List.mem_range];intro i hi;have eg : (List.replicate gn noG)[i]?.getD noG = noG := by simp [hi]
 rw [eg]
 rfl
theorem still_new {R : Nat → Bool} : stillB R [0, 0, 0] = true := by
 unfold stillB stillTo;rw [List.all_eq_true];intro v hv
 have : ([0, 0, 0] : List Int)[v]?.getD 0 = 0 := by
  rcases v with _ | _ | _ | v <;> simp
 simp [this]
theorem keep_new {gn : Nat} {G S : List Int} {T : List (List Int)} (h : trtB 3 gn S G = true) (hG : G.length = gn) (hT : PartOk T) : keepT 3 gn S G T 0 3 [0, 0, 0] = true := by
 have h' := h;simp only [trtB, Bool.and_eq_true] at h';have hg := inB_iff.1 h'.2.1
 have hb : (0 : Int) ≤ (G[0]?.getD 0 : Int) := by
  have h2 := h'.2.2;unfold betB at h2;have := inB_iff.1 (List.all_eq_true.1 h2 _ (List.getElem_mem (show 0 < G.length by omega)));rw [List.getElem?_eq_getElem (by omega)]
  exact this.1
 unfold keepT keepB viewB;simp only [Bool.and_eq_true];refine ⟨⟨h, ?_, inB_iff.2 (by omega), by decide⟩, ?_⟩
 ·unfold partsB;rw [List.all_map, List.all_eq_true];intro p hp;have hx := hT p hp
  show okN 3 10000000 p.length p = true
  rw [hx.1, okN, bnd_allO hx.2]
  rfl
 unfold keepsB;rw [List.all_map, List.all_eq_true];intro p hp;have e : dot p [0, 0, 0] 3 = 0 := by simp [dot]
 show inB (dot p [0, 0, 0] 3) _ _ = true
 rw [e]
 exact inB_iff.2 (by show -(G[(0 : Int).toNat]?.getD 0) ≤ 0 ∧ 0 ≤ G[(0 : Int).toNat]?.getD 0; simp only [Int.toNat_zero]; omega)
theorem fit_of {w : World} {ad : Option Addr} {N : Nat} {ss : List L2V} (h : LSG w ad ss) (hN : ss.length = N) (hc : catB N ss = true) : ∀ a ∈ ss, ∀ r ∈ rowsL a.x, RowFit r := fun a ha => by
 obtain ⟨i, hi, rfl⟩ := List.mem_iff_getElem.1 ha;obtain ⟨_, _, _, _, h2⟩ := h i hi;rw [List.getElem?_eq_getElem hi, Option.getD_some] at h2;simp only [catB, Bool.and_eq_true] at hc;have hact : actB ss[i].n ss[i].x = true := List.all_eq_true.1 hc.2 _ ha
 exact rowsL_fit (by rw [h2.1]; exact (actB_parts hact).1) (actB_parts hact).2 h2.2.1
theorem sit_new {w : World} {cl : Int} {ad : Option Addr} {N : Nat} {ss : List L2V} {ga : Option Addr} {gn : Nat} {G : List Int} {sa : Option Addr} {S : List Int} (h : plnB cl N ss gn G 3 S = true) (P : PlAt w ad N ss ga gn G sa 3 S) : sitB cl N ss gn G 3 S 0 3 S 3 [0, 0, 0] cl.toNat (List.replicate cl.toNat noD) 0 = true := by
 have h' := h;simp only [plnB, Bool.and_eq_true] at h';have hc := inB_iff.1 h'.1;simp only [sitB, siteB, Bool.and_eq_true]
 exact ⟨h, by decide, keep_new h'.2.2.2 P.g.1 (catP_ok (fit_of P.a P.ha h'.2.1)), still_new, dones_new⟩
theorem ok_moreS {S : List Int} (h : okN 3 1000 3 S = true) : okN 3 10000 3 S = true := by
 rw [okN_is (by omega)] at h ⊢;rw [allB, List.all_eq_true] at h ⊢;intro x hx;have := inB_iff.1 (h x hx)
 exact inB_iff.2 (by omega)
theorem clk_new {w : World} {cl : Int} {ad : Option Addr} {N : Nat} {ss : List L2V} {ga : Option Addr} {gn : Nat} {G : List Int} {sa : Option Addr} {S : List Int} (h : plnB cl N ss gn G 3 S = true) (P : PlAt w ad N ss ga gn G sa 3 S) : clkB cl N ss gn G 3 S true 0 3 S cl.toNat (List.replicate cl.toNat noD) 0 [] gn (List.replicate gn noG) = true ∧ hasAll (List.replicate gn noG) = false := by
 have h' := h;simp only [plnB, Bool.and_eq_true] at h';have hc := inB_iff.1 h'.1;have hg := (pln_parts h).2;refine ⟨?_, ?_⟩
 ·simp only [clkB, clerkB, Bool.and_eq_true]
  exact ⟨h, by decide, ok_moreS h'.2.2.1, dones_new, rfl, gots_new, rfl⟩
 obtain ⟨k, rfl⟩ : ∃ k, gn = k + 1 := ⟨gn - 1, by omega⟩
 rfl
theorem walk (w : World) (a : Option Addr) (n cap : Nat) (A0 : List Int) (hA0 : BInts w a n A0) (hn : n ≤ cap ∧ cap ≤ maxLen) (hT : Lib.TabBelow Tryz.prog w.heap.size w "internal/strconv.uint64pow10" .u64 Lib.pow10Tab) :
  Calls Tryz.prog 3 #[.slice a n cap] w fun e w' => e = .returned (.bool true) ∧ Below w.heap.size w w' := by
 obtain ⟨hn2, hn3⟩ := hn
 by_cases hn1 : n ≤ 1048576
 ·have HTB : Hid _ := hT;clear hT
  go_enter Tryz.func3, Tryz.ntmps3
  go_wp2_with fail
  refine (dSitNew A0 hA0 hn2 hn1 hn3).mono ?_;rintro ee w1 ⟨cl, ad, N, c, ss, ga, gn, gc, G, sa, sn, sc, S, rfl, BB, P⟩;obtain ⟨ok, hok⟩ : ∃ b, plnB cl N ss gn G sn S = b := ⟨_, rfl⟩
  have HOK : Hid (plnB cl N ss gn G sn S = ok) := hok;clear hok;obtain ⟨b3, hb3⟩ : ∃ x, nB ok 3 = x := ⟨_, rfl⟩
  obtain ⟨d4, hd4⟩ : ∃ x, nB ok cl.toNat = x := ⟨_, rfl⟩
  obtain ⟨g3, hg3⟩ : ∃ x, nB ok gn = x := ⟨_, rfl⟩
  obtain ⟨SS, hSS0⟩ : ∃ x, lB ok S = x := ⟨_, rfl⟩
  obtain ⟨ZZ, hZZ⟩ : ∃ x, lB ok [0, 0, 0] = x := ⟨_, rfl⟩
  have HE : Hid (nB ok 3 = b3 ∧ nB ok cl.toNat = d4 ∧ nB ok gn = g3 ∧ lB ok S = SS ∧ lB ok [0, 0, 0] = ZZ) := ⟨hb3, hd4, hg3, hSS0, hZZ⟩
  have zb3 : b3 ≤ 3 := by rw [← hb3, nB]; split <;> omega
  clear hb3 hd4 hg3 hSS0 hZZ;have al := (Below.refl w1.heap.size w1).alloc (Nat.le_refl _) (.cells #[.int .i64 cl, .slice ad N c, .slice ga gn gc, .slice sa sn sc] 26);replace BB := btr BB al;replace P := P.below al;clear al;have x := Cel.new w1 [.int .i64 cl, .slice ad N c, .slice ga gn gc, .slice sa sn sc] 26
  go_wp2_with fail
  obtain ⟨w2, hw2⟩ : ∃ W, W = w1.alloc (.cells #[.int .i64 cl, .slice ad N c, .slice ga gn gc, .slice sa sn sc] 26) := ⟨_, rfl⟩
  rw [← hw2];rw [← hw2] at BB P x;have zb2 : w2.heap.size = w1.heap.size + 1 := by rw [hw2, World.size_alloc]
  have za2 : w2.heap.size ≤ w1.heap.size + 1 ∧ w1.heap.size + 1 ≤ w2.heap.size := by omega
  clear hw2 zb2;obtain ⟨X3, hX3⟩ : ∃ x, x = w1.heap.size := ⟨_, rfl⟩
  rw [← hX3] at x;rw [← hX3];clear hX3;refine ((Calls.mono (isitnew_any cl ad N c ss ga gn gc G sa sn sc S P) (fun e w' h => by rw [HOK.out] at h; have h := sit_form h; rw [HE.out.1, HE.out.2.1, HE.out.2.2.2.1, HE.out.2.2.2.2] at h; exact h))).mono ?_;rintro ee w3 ⟨ba, bc, aa, ac, da, D1, dc, rfl, b, i1, i2, d1, zd4⟩;replace BB := btr BB b;replace P := P.below b;replace x := x.below b;have z3 := b.size;clear b;have x0 := x.cell 0;have x1 := x.cell 1;have x2 := x.cell 2;have x3 := x.cell 3;simp only [List.getElem?_cons_zero, List.getElem?_cons_succ] at x0 x1 x2 x3;have lX3 := x.lt;have al := (Below.refl w3.heap.size w3).alloc (Nat.le_refl _) (.cells #[.bool ok, .bool false, .int .i64 0, .slice ba b3 bc, .slice aa b3 ac, .slice da d4 dc] 30);replace BB := btr BB al;replace P := P.below al;replace x := x.below al;replace i1 := i1.below al;replace i2 := i2.below al;replace d1 := d1.below al;clear al;have s := Cel.new w3 [.bool ok, .bool false, .int .i64 0, .slice ba b3 bc, .slice aa b3 ac, .slice da d4 dc] 30
  go_wp2_with fail
  obtain ⟨w4, hw4⟩ : ∃ W, W = w3.alloc (.cells #[.bool ok, .bool false, .int .i64 0, .slice ba b3 bc, .slice aa b3 ac, .slice da d4 dc] 30) := ⟨_, rfl⟩
  rw [← hw4];rw [← hw4] at BB P x i1 i2 d1 s;have zb4 : w4.heap.size = w3.heap.size + 1 := by rw [hw4, World.size_alloc]
  have za4 : w4.heap.size ≤ w3.heap.size + 1 ∧ w3.heap.size + 1 ≤ w4.heap.size := by omega
  clear hw4 zb4;clear x0 x1 x2 x3;obtain ⟨X4, hX4⟩ : ∃ x, x = w3.heap.size := ⟨_, rfl⟩
  rw [← hX4] at s;rw [← hX4];have lX4 : X3 < X4 := by omega
  clear hX4;refine ((Calls.mono (iclknew_any cl ad N c ss ga gn gc G sa sn sc S P) (fun e w' h => by rw [HOK.out] at h; have h := clk_form h; rw [HE.out.1, HE.out.2.1, HE.out.2.2.1, HE.out.2.2.2.1] at h; exact h))).mono ?_;rintro ee w5 ⟨ka, kc, ja, J1, jc, qa, C1, qc, rfl, b, ki1, j1, g1, zg3⟩;replace BB := btr BB b;replace P := P.below b;replace x := x.below b;replace i1 := i1.below b;replace i2 := i2.below b;replace d1 := d1.below b;replace s := s.below b;have z5 := b.size;clear b;have lX4b := s.lt;have HX : Hid _ := x;have HSs : Hid _ := s;have x0 := x.cell 0;have x1 := x.cell 1;have x2 := x.cell 2;have x3 := x.cell 3;have s0 := s.cell 0;have s1 := s.cell 1;have s2 := s.cell 2;have s3 := s.cell 3;have s4 := s.cell 4;have s5 := s.cell 5;simp only [List.getElem?_cons_zero, List.getElem?_cons_succ] at x0 x1 x2 x3 s0 s1 s2 s3 s4 s5;have al := (Below.refl w5.heap.size w5).alloc (Nat.le_refl _) (.cells #[.bool ok, .int .i64 0, .slice ka b3 kc, .slice ja d4 jc, .slice none 0 0, .slice qa g3 qc] 35);replace BB := btr BB al;replace P := P.below al;replace x := x.below al;replace i1 := i1.below al;replace i2 := i2.below al;replace d1 := d1.below al;replace s := s.below al;replace ki1 := ki1.below al;replace j1 := j1.below al;replace g1 := g1.below al;clear al;have k := Cel.new w5 [.bool ok, .int .i64 0, .slice ka b3 kc, .slice ja d4 jc, .slice none 0 0, .slice qa g3 qc] 35
  go_upto_region 6 with fail
  obtain ⟨w6, hw6⟩ : ∃ W, W = w5.alloc (.cells #[.bool ok, .int .i64 0, .slice ka b3 kc, .slice ja d4 jc, .slice none 0 0, .slice qa g3 qc] 35) := ⟨_, rfl⟩
  rw [← hw6];rw [← hw6] at BB P x i1 i2 d1 s ki1 j1 g1 k;have zb6 : w6.heap.size = w5.heap.size + 1 := by rw [hw6, World.size_alloc]
  have za6 : w6.heap.size ≤ w5.heap.size + 1 ∧ w5.heap.size + 1 ≤ w6.heap.size := by omega
  clear hw6 zb6;clear x0 x1 x2 x3 s0 s1 s2 s3 s4 s5 HX HSs;obtain ⟨X5, hX5⟩ : ∃ x, x = w5.heap.size := ⟨_, rfl⟩
  rw [← hX5] at k;rw [← hX5];have lX5 : X4 < X5 := by omega
  clear hX5;have x0 := x.cell 0;have x1 := x.cell 1;have x2 := x.cell 2;have x3 := x.cell 3;have s0 := s.cell 0;have s1 := s.cell 1;have s2 := s.cell 2;have s3 := s.cell 3;have s4 := s.cell 4;have s5 := s.cell 5;have k0 := k.cell 0;have k1 := k.cell 1;have k2 := k.cell 2;have k3 := k.cell 3;have k4 := k.cell 4;have k5 := k.cell 5;simp only [List.getElem?_cons_zero, List.getElem?_cons_succ] at x0 x1 x2 x3 s0 s1 s2 s3 s4 s5 k0 k1 k2 k3 k4 k5
  have KP : Hid (∀ X, Below w6.heap.size w6 X → (X.cell? ⟨X3, 0, none⟩ = some (.int .i64 cl) ∧ X.cell? ⟨X3, 1, none⟩ = some (.slice ad N c) ∧ X.cell? ⟨X3, 2, none⟩ = some (.slice ga gn gc) ∧ X.cell? ⟨X3, 3, none⟩ = some (.slice sa sn sc) ∧ X.cell? ⟨X4, 0, none⟩ = some (.bool ok) ∧ X.cell? ⟨X4, 1, none⟩ = some (.bool false) ∧ X.cell? ⟨X4, 2, none⟩ = some (.int .i64 0) ∧ X.cell? ⟨X4, 3, none⟩ = some (.slice ba b3 bc) ∧ X.cell? ⟨X4, 4, none⟩ = some (.slice aa b3 ac) ∧ X.cell? ⟨X4, 5, none⟩ = some (.slice da d4 dc) ∧ X.cell? ⟨X5, 0, none⟩ = some (.bool ok) ∧ X.cell? ⟨X5, 1, none⟩ = some (.int .i64 0) ∧ X.cell? ⟨X5, 2, none⟩ = some (.slice ka b3 kc) ∧ X.cell? ⟨X5, 3, none⟩ = some (.slice ja d4 jc) ∧ X.cell? ⟨X5, 4, none⟩ = some (.slice none 0 0) ∧ X.cell? ⟨X5, 5, none⟩ = some (.slice qa g3 qc))) := fun X hX => ⟨(hX.cell (p := ⟨X3, 0, none⟩) (block_lt x0)).trans x0, (hX.cell (p := ⟨X3, 1, none⟩) (block_lt x1)).trans x1, (hX.cell (p := ⟨X3, 2, none⟩) (block_lt x2)).trans x2, (hX.cell (p := ⟨X3, 3, none⟩) (block_lt x3)).trans x3, (hX.cell (p := ⟨X4, 0, none⟩) (block_lt s0)).trans s0, (hX.cell (p := ⟨X4, 1, none⟩) (block_lt s1)).trans s1, (hX.cell (p := ⟨X4, 2, none⟩) (block_lt s2)).trans s2, (hX.cell (p := ⟨X4, 3, none⟩) (block_lt s3)).trans s3, (hX.cell (p := ⟨X4, 4, none⟩) (block_lt s4)).trans s4, (hX.cell (p := ⟨X4, 5, none⟩) (block_lt s5)).trans s5, (hX.cell (p := ⟨X5, 0, none⟩) (block_lt k0)).trans k0, (hX.cell (p := ⟨X5, 1, none⟩) (block_lt k1)).trans k1, (hX.cell (p := ⟨X5, 2, none⟩) (block_lt k2)).trans k2, (hX.cell (p := ⟨X5, 3, none⟩) (block_lt k3)).trans k3, (hX.cell (p := ⟨X5, 4, none⟩) (block_lt k4)).trans k4, (hX.cell (p := ⟨X5, 5, none⟩) (block_lt k5)).trans k5⟩
  refine wp_region_ends (fun X => X.cell? ⟨X3, 0, none⟩ = some (.int .i64 cl) ∧ X.cell? ⟨X3, 1, none⟩ = some (.slice ad N c) ∧ X.cell? ⟨X3, 2, none⟩ = some (.slice ga gn gc) ∧ X.cell? ⟨X3, 3, none⟩ = some (.slice sa sn sc) ∧ X.cell? ⟨X4, 0, none⟩ = some (.bool ok) ∧ X.cell? ⟨X4, 1, none⟩ = some (.bool false) ∧ X.cell? ⟨X4, 2, none⟩ = some (.int .i64 0) ∧ X.cell? ⟨X4, 3, none⟩ = some (.slice ba b3 bc) ∧ X.cell? ⟨X4, 4, none⟩ = some (.slice aa b3 ac) ∧ X.cell? ⟨X4, 5, none⟩ = some (.slice da d4 dc) ∧ X.cell? ⟨X5, 0, none⟩ = some (.bool ok) ∧ X.cell? ⟨X5, 1, none⟩ = some (.int .i64 0) ∧ X.cell? ⟨X5, 2, none⟩ = some (.slice ka b3 kc) ∧ X.cell? ⟨X5, 3, none⟩ = some (.slice ja d4 jc) ∧ X.cell? ⟨X5, 4, none⟩ = some (.slice none 0 0) ∧ X.cell? ⟨X5, 5, none⟩ = some (.slice qa g3 qc)) (fun _ => True) 11 (by kernel_rfl) ?_;have BV : Below w6.heap.size w6 w6.drew := (Below.refl _ _).drew;obtain ⟨V, hV⟩ : ∃ V, V = w6.drew := ⟨_, rfl⟩
  rw [← hV] at BV;rw [← hV];clear hV;have hSS : (V.cell? ⟨X3, 0, none⟩ = some (.int .i64 cl) ∧ V.cell? ⟨X3, 1, none⟩ = some (.slice ad N c) ∧ V.cell? ⟨X3, 2, none⟩ = some (.slice ga gn gc) ∧ V.cell? ⟨X3, 3, none⟩ = some (.slice sa sn sc) ∧ V.cell? ⟨X4, 0, none⟩ = some (.bool ok) ∧ V.cell? ⟨X4, 1, none⟩ = some (.bool false) ∧ V.cell? ⟨X4, 2, none⟩ = some (.int .i64 0) ∧ V.cell? ⟨X4, 3, none⟩ = some (.slice ba b3 bc) ∧ V.cell? ⟨X4, 4, none⟩ = some (.slice aa b3 ac) ∧ V.cell? ⟨X4, 5, none⟩ = some (.slice da d4 dc) ∧ V.cell? ⟨X5, 0, none⟩ = some (.bool ok) ∧ V.cell? ⟨X5, 1, none⟩ = some (.int .i64 0) ∧ V.cell? ⟨X5, 2, none⟩ = some (.slice ka b3 kc) ∧ V.cell? ⟨X5, 3, none⟩ = some (.slice ja d4 jc) ∧ V.cell? ⟨X5, 4, none⟩ = some (.slice none 0 0) ∧ V.cell? ⟨X5, 5, none⟩ = some (.slice qa g3 qc)) ∧ True := ⟨KP.out _ BV, trivial⟩
  refine tkl 0 rfl hSS ?_;refine tkl 1 rfl hSS ?_;refine wo1 2 rfl fun K hK => ?_;go_simp;refine ((Calls.mono (ssitnew_any cl ad N c ss ga gn gc G sa sn sc S (P.below BV)) (fun e w' h => by rw [HOK.out] at h; have h := sit_form h; rw [HE.out.1, HE.out.2.1, HE.out.2.2.2.1, HE.out.2.2.2.2] at h; exact h))).mono ?_;rintro ee v2 ⟨ba', bc', aa', ac', da', D2, dc', rfl, b2, m1, m2, d2, -⟩;have B2 := btr BV b2;clear hSS;have hSS : (v2.cell? ⟨X3, 0, none⟩ = some (.int .i64 cl) ∧ v2.cell? ⟨X3, 1, none⟩ = some (.slice ad N c) ∧ v2.cell? ⟨X3, 2, none⟩ = some (.slice ga gn gc) ∧ v2.cell? ⟨X3, 3, none⟩ = some (.slice sa sn sc) ∧ v2.cell? ⟨X4, 0, none⟩ = some (.bool ok) ∧ v2.cell? ⟨X4, 1, none⟩ = some (.bool false) ∧ v2.cell? ⟨X4, 2, none⟩ = some (.int .i64 0) ∧ v2.cell? ⟨X4, 3, none⟩ = some (.slice ba b3 bc) ∧ v2.cell? ⟨X4, 4, none⟩ = some (.slice aa b3 ac) ∧ v2.cell? ⟨X4, 5, none⟩ = some (.slice da d4 dc) ∧ v2.cell? ⟨X5, 0, none⟩ = some (.bool ok) ∧ v2.cell? ⟨X5, 1, none⟩ = some (.int .i64 0) ∧ v2.cell? ⟨X5, 2, none⟩ = some (.slice ka b3 kc) ∧ v2.cell? ⟨X5, 3, none⟩ = some (.slice ja d4 jc) ∧ v2.cell? ⟨X5, 4, none⟩ = some (.slice none 0 0) ∧ v2.cell? ⟨X5, 5, none⟩ = some (.slice qa g3 qc)) ∧ True := ⟨KP.out _ B2, trivial⟩
  (try dsimp only);refine kk0 hK (hSS.1) ?_;refine wo1 3 rfl fun K hK => ?_;go_simp;refine (coSt_same ok false 0 SS ZZ (i1.below B2) (i2.below B2) (d1.below B2) m1 m2 d2).mono ?_;rintro ee v3 ⟨rfl, b3'⟩;have B3 := btr B2 b3';clear hSS;have hSS : (v3.cell? ⟨X3, 0, none⟩ = some (.int .i64 cl) ∧ v3.cell? ⟨X3, 1, none⟩ = some (.slice ad N c) ∧ v3.cell? ⟨X3, 2, none⟩ = some (.slice ga gn gc) ∧ v3.cell? ⟨X3, 3, none⟩ = some (.slice sa sn sc) ∧ v3.cell? ⟨X4, 0, none⟩ = some (.bool ok) ∧ v3.cell? ⟨X4, 1, none⟩ = some (.bool false) ∧ v3.cell? ⟨X4, 2, none⟩ = some (.int .i64 0) ∧ v3.cell? ⟨X4, 3, none⟩ = some (.slice ba b3 bc) ∧ v3.cell? ⟨X4, 4, none⟩ = some (.slice aa b3 ac) ∧ v3.cell? ⟨X4, 5, none⟩ = some (.slice da d4 dc) ∧ v3.cell? ⟨X5, 0, none⟩ = some (.bool ok) ∧ v3.cell? ⟨X5, 1, none⟩ = some (.int .i64 0) ∧ v3.cell? ⟨X5, 2, none⟩ = some (.slice ka b3 kc) ∧ v3.cell? ⟨X5, 3, none⟩ = some (.slice ja d4 jc) ∧ v3.cell? ⟨X5, 4, none⟩ = some (.slice none 0 0) ∧ v3.cell? ⟨X5, 5, none⟩ = some (.slice qa g3 qc)) ∧ True := ⟨KP.out _ B3, trivial⟩
  (try dsimp only);refine kk0 hK (hSS.1) ?_;refine tkl 4 rfl hSS ?_;refine tkl 5 rfl hSS ?_;refine tkl 6 rfl hSS ?_;refine tkl 7 rfl hSS ?_;simp only [Act.put, List.setIfInBounds_toArray, List.set_cons_succ, List.set_cons_zero, List.getElem_toArray, List.getElem_cons_succ, List.getElem_cons_zero];refine wo1 8 rfl fun K hK => ?_;go_simp;refine ((Calls.mono (sclknew_any cl ad N c ss ga gn gc G sa sn sc S (P.below B3)) (fun e w' h => by rw [HOK.out] at h; have h := clk_form h; rw [HE.out.1, HE.out.2.1, HE.out.2.2.1, HE.out.2.2.2.1] at h; exact h))).mono ?_;rintro ee v8 ⟨ka', kc', ja', J2, jc', qa', C2, qc', rfl, b8, n1, n2, n3, -⟩;have B8 := btr B3 b8;clear hSS;have hSS : (v8.cell? ⟨X3, 0, none⟩ = some (.int .i64 cl) ∧ v8.cell? ⟨X3, 1, none⟩ = some (.slice ad N c) ∧ v8.cell? ⟨X3, 2, none⟩ = some (.slice ga gn gc) ∧ v8.cell? ⟨X3, 3, none⟩ = some (.slice sa sn sc) ∧ v8.cell? ⟨X4, 0, none⟩ = some (.bool ok) ∧ v8.cell? ⟨X4, 1, none⟩ = some (.bool false) ∧ v8.cell? ⟨X4, 2, none⟩ = some (.int .i64 0) ∧ v8.cell? ⟨X4, 3, none⟩ = some (.slice ba b3 bc) ∧ v8.cell? ⟨X4, 4, none⟩ = some (.slice aa b3 ac) ∧ v8.cell? ⟨X4, 5, none⟩ = some (.slice da d4 dc) ∧ v8.cell? ⟨X5, 0, none⟩ = some (.bool ok) ∧ v8.cell? ⟨X5, 1, none⟩ = some (.int .i64 0) ∧ v8.cell? ⟨X5, 2, none⟩ = some (.slice ka b3 kc) ∧ v8.cell? ⟨X5, 3, none⟩ = some (.slice ja d4 jc) ∧ v8.cell? ⟨X5, 4, none⟩ = some (.slice none 0 0) ∧ v8.cell? ⟨X5, 5, none⟩ = some (.slice qa g3 qc)) ∧ True := ⟨KP.out _ B8, trivial⟩
  (try dsimp only);refine kk0 hK (hSS.1) ?_;refine wo1 9 rfl fun K hK => ?_;go_simp;refine (coCk_same ok 0 SS (ki1.below B8) (j1.below B8) (g1.below B8) n1 n2 n3).mono ?_;rintro ee v9 ⟨rfl, b9⟩;have B9 := btr B8 b9;clear hSS;have hSS : (v9.cell? ⟨X3, 0, none⟩ = some (.int .i64 cl) ∧ v9.cell? ⟨X3, 1, none⟩ = some (.slice ad N c) ∧ v9.cell? ⟨X3, 2, none⟩ = some (.slice ga gn gc) ∧ v9.cell? ⟨X3, 3, none⟩ = some (.slice sa sn sc) ∧ v9.cell? ⟨X4, 0, none⟩ = some (.bool ok) ∧ v9.cell? ⟨X4, 1, none⟩ = some (.bool false) ∧ v9.cell? ⟨X4, 2, none⟩ = some (.int .i64 0) ∧ v9.cell? ⟨X4, 3, none⟩ = some (.slice ba b3 bc) ∧ v9.cell? ⟨X4, 4, none⟩ = some (.slice aa b3 ac) ∧ v9.cell? ⟨X4, 5, none⟩ = some (.slice da d4 dc) ∧ v9.cell? ⟨X5, 0, none⟩ = some (.bool ok) ∧ v9.cell? ⟨X5, 1, none⟩ = some (.int .i64 0) ∧ v9.cell? ⟨X5, 2, none⟩ = some (.slice ka b3 kc) ∧ v9.cell? ⟨X5, 3, none⟩ = some (.slice ja d4 jc) ∧ v9.cell? ⟨X5, 4, none⟩ = some (.slice none 0 0) ∧ v9.cell? ⟨X5, 5, none⟩ = some (.slice qa g3 qc)) ∧ True := ⟨KP.out _ B9, trivial⟩
  (try dsimp only);refine kk0 hK (hSS.1) ?_;refine tkl 10 rfl hSS ?_;refine wo1 11 rfl fun K hK => ?_;go_simp;refine kk0 hK (hSS.1) ?_;refine wod ?_ _;clear hSS;clear KP x0 x1 x2 x3 s0 s1 s2 s3 s4 s5 k0 k1 k2 k3 k4 k5
  go_upto_region 8 with fail
  clear m1 m2 d2 n1 n2 n3;replace BB := btr BB B9;replace P := P.below B9;replace x := x.below B9;replace i1 := i1.below B9;replace i2 := i2.below B9;replace d1 := d1.below B9;replace s := s.below B9;replace ki1 := ki1.below B9;replace j1 := j1.below B9;replace g1 := g1.below B9;replace k := k.below B9;clear BV B2 B3 B8 B9 b2 b3' b8 b9;have cx_0 := x.cell 0;have cx_1 := x.cell 1;have cx_2 := x.cell 2;have cx_3 := x.cell 3;simp only [List.getElem?_cons_zero, List.getElem?_cons_succ] at cx_0 cx_1 cx_2 cx_3
  go_wp2_with fail
  refine (splnok_any cl ad N c ss ga gn gc G sa sn sc S P).mono ?_;rintro ee w7 ⟨rfl, b⟩;rw [HOK.out];clear cx_0 cx_1 cx_2 cx_3;replace BB := btr BB b;replace P := P.below b;replace x := x.below b;replace i1 := i1.below b;replace i2 := i2.below b;replace d1 := d1.below b;replace s := s.below b;replace ki1 := ki1.below b;replace j1 := j1.below b;replace g1 := g1.below b;replace k := k.below b;have z7 := b.size;clear b
  cases ok
  ·obtain ⟨h1, h2, h3, h4, h5⟩ := HE.out;obtain rfl : b3 = 0 := h1.symm;obtain rfl : d4 = 0 := h2.symm;obtain rfl : g3 = 0 := h3.symm;obtain rfl : SS = [] := h4.symm;obtain rfl : ZZ = [] := h5.symm;clear h1 h2 h3 h4 h5 HE;have cs_0 := s.cell 0;have cs_1 := s.cell 1;have cs_2 := s.cell 2;have cs_3 := s.cell 3;have cs_4 := s.cell 4;have cs_5 := s.cell 5;simp only [List.getElem?_cons_zero, List.getElem?_cons_succ] at cs_0 cs_1 cs_2 cs_3 cs_4 cs_5
   go_wp2_with fail
   refine (coSt_same false false 0 [] [] i1 i2 d1 (ints_none) (ints_none) (DX.zero _ none 0 _)).mono ?_;rintro ee w8 ⟨rfl, b⟩;clear cs_0 cs_1 cs_2 cs_3 cs_4 cs_5;replace BB := btr BB b;replace P := P.below b;replace x := x.below b;replace i1 := i1.below b;replace i2 := i2.below b;replace d1 := d1.below b;replace s := s.below b;replace ki1 := ki1.below b;replace j1 := j1.below b;replace g1 := g1.below b;replace k := k.below b;have z8 := b.size;clear b;have ck_0 := k.cell 0;have ck_1 := k.cell 1;have ck_2 := k.cell 2;have ck_3 := k.cell 3;have ck_4 := k.cell 4;have ck_5 := k.cell 5;simp only [List.getElem?_cons_zero, List.getElem?_cons_succ] at ck_0 ck_1 ck_2 ck_3 ck_4 ck_5
   go_wp2_with fail
   refine (coCk_same false 0 [] ki1 j1 g1 (ints_none) (DX.zero _ none 0 _) (GX.zero _ none 0 _)).mono ?_;rintro ee w9 ⟨rfl, b⟩;clear ck_0 ck_1 ck_2 ck_3 ck_4 ck_5;replace BB := btr BB b;replace P := P.below b;replace x := x.below b;replace i1 := i1.below b;replace i2 := i2.below b;replace d1 := d1.below b;replace s := s.below b;replace ki1 := ki1.below b;replace j1 := j1.below b;replace g1 := g1.below b;replace k := k.below b;have z9 := b.size;clear b
   go_wp2_with fail
   refine (coHolds_any).mono ?_;rintro ee w10 ⟨rfl, b⟩;replace BB := btr BB b;replace P := P.below b;replace x := x.below b;replace i1 := i1.below b;replace i2 := i2.below b;replace d1 := d1.below b;replace s := s.below b;replace ki1 := ki1.below b;replace j1 := j1.below b;replace g1 := g1.below b;replace k := k.below b;have z10 := b.size;clear b
   go_wp2
   go_ret
   exact ⟨rfl, BB⟩
  obtain rfl : sn = 3 := pln_three HOK.out;obtain ⟨h1, h2, h3, h4, h5⟩ := HE.out;obtain rfl : b3 = 3 := h1.symm;obtain rfl : d4 = cl.toNat := h2.symm;obtain rfl : gn = g3 := h3;obtain rfl : S = SS := h4;obtain rfl : ZZ = [0, 0, 0] := h5.symm;clear h1 h2 h5 HE;have HSN : Hid _ := sit_new HOK.out P;have HCN : Hid _ := clk_new HOK.out P;have st : ∀ {W : World}, Below v9.heap.size v9 W → True := fun _ => trivial;clear st;have cx_0 := x.cell 0;have cx_1 := x.cell 1;have cx_2 := x.cell 2;have cx_3 := x.cell 3;have cs_0 := s.cell 0;have cs_1 := s.cell 1;have cs_2 := s.cell 2;have cs_3 := s.cell 3;have cs_4 := s.cell 4;have cs_5 := s.cell 5;simp only [List.getElem?_cons_zero, List.getElem?_cons_succ] at cx_0 cx_1 cx_2 cx_3 cs_0 cs_1 cs_2 cs_3 cs_4 cs_5
  go_wp2_with fail
  refine (isitok_any cl ad N c ga gn gc sa 3 sc ss G S true false 0 ba 3 bc S aa 3 ac [0, 0, 0] da cl.toNat dc (List.replicate cl.toNat noD) 0 P ⟨i1, by omega, i2, by omega, (DX.dsg d1), List.length_replicate, by omega⟩ (fun w' h' => HTB.out w' (btr BB h'))).mono ?_;rintro ee w8 ⟨rfl, b⟩;rw [HSN.out];clear cx_0 cx_1 cx_2 cx_3 cs_0 cs_1 cs_2 cs_3 cs_4 cs_5;replace BB := btr BB b;replace P := P.below b;replace x := x.below b;replace i1 := i1.below b;replace i2 := i2.below b;replace d1 := d1.below b;replace s := s.below b;replace ki1 := ki1.below b;replace j1 := j1.below b;replace g1 := g1.below b;replace k := k.below b;have z8 := b.size;clear b;have cx_0 := x.cell 0;have cx_1 := x.cell 1;have cx_2 := x.cell 2;have cx_3 := x.cell 3;have ck_0 := k.cell 0;have ck_1 := k.cell 1;have ck_2 := k.cell 2;have ck_3 := k.cell 3;have ck_4 := k.cell 4;have ck_5 := k.cell 5;simp only [List.getElem?_cons_zero, List.getElem?_cons_succ] at cx_0 cx_1 cx_2 cx_3 ck_0 ck_1 ck_2 ck_3 ck_4 ck_5
  go_wp2_with fail
  refine (iclkok_any cl ad N c ga gn gc sa 3 sc ss G S true 0 ka 3 kc S ja cl.toNat jc (List.replicate cl.toNat noD) none 0 0 [] qa gn qc (List.replicate gn noG) P ⟨ki1, by omega, (DX.dsg j1), List.length_replicate, by omega, fun i hi => by simp at hi, rfl, by omega, (GX.gsg g1), List.length_replicate, by omega⟩ (fun w' h' => HTB.out w' (btr BB h'))).mono ?_;rintro ee w9 ⟨rfl, b⟩;rw [HCN.out.1];clear cx_0 cx_1 cx_2 cx_3 ck_0 ck_1 ck_2 ck_3 ck_4 ck_5;replace BB := btr BB b;replace P := P.below b;replace x := x.below b;replace i1 := i1.below b;replace i2 := i2.below b;replace d1 := d1.below b;replace s := s.below b;replace ki1 := ki1.below b;replace j1 := j1.below b;replace g1 := g1.below b;replace k := k.below b;have z9 := b.size;clear b;have cx_0 := x.cell 0;have cx_1 := x.cell 1;have cx_2 := x.cell 2;have cx_3 := x.cell 3;have cs_0 := s.cell 0;have cs_1 := s.cell 1;have cs_2 := s.cell 2;have cs_3 := s.cell 3;have cs_4 := s.cell 4;have cs_5 := s.cell 5;simp only [List.getElem?_cons_zero, List.getElem?_cons_succ] at cx_0 cx_1 cx_2 cx_3 cs_0 cs_1 cs_2 cs_3 cs_4 cs_5
  go_wp2_with fail
  refine (coI_any S S _ i1 P.s (by omega) (by omega)).mono ?_;rintro ee w10 ⟨rfl, b⟩;rw [eqB_refl];clear cx_0 cx_1 cx_2 cx_3 cs_0 cs_1 cs_2 cs_3 cs_4 cs_5;replace BB := btr BB b;replace P := P.below b;replace x := x.below b;replace i1 := i1.below b;replace i2 := i2.below b;replace d1 := d1.below b;replace s := s.below b;replace ki1 := ki1.below b;replace j1 := j1.below b;replace g1 := g1.below b;replace k := k.below b;have z10 := b.size;clear b;have cx_0 := x.cell 0;have cx_1 := x.cell 1;have cx_2 := x.cell 2;have cx_3 := x.cell 3;have ck_0 := k.cell 0;have ck_1 := k.cell 1;have ck_2 := k.cell 2;have ck_3 := k.cell 3;have ck_4 := k.cell 4;have ck_5 := k.cell 5;simp only [List.getElem?_cons_zero, List.getElem?_cons_succ] at cx_0 cx_1 cx_2 cx_3 ck_0 ck_1 ck_2 ck_3 ck_4 ck_5
  go_wp2_with fail
  refine (coI_any S S _ ki1 P.s (by omega) (by omega)).mono ?_;rintro ee w11 ⟨rfl, b⟩;rw [eqB_refl];clear cx_0 cx_1 cx_2 cx_3 ck_0 ck_1 ck_2 ck_3 ck_4 ck_5;replace BB := btr BB b;replace P := P.below b;replace x := x.below b;replace i1 := i1.below b;replace i2 := i2.below b;replace d1 := d1.below b;replace s := s.below b;replace ki1 := ki1.below b;replace j1 := j1.below b;replace g1 := g1.below b;replace k := k.below b;have z11 := b.size;clear b;have cs_0 := s.cell 0;have cs_1 := s.cell 1;have cs_2 := s.cell 2;have cs_3 := s.cell 3;have cs_4 := s.cell 4;have cs_5 := s.cell 5;have ck_0 := k.cell 0;have ck_1 := k.cell 1;have ck_2 := k.cell 2;have ck_3 := k.cell 3;have ck_4 := k.cell 4;have ck_5 := k.cell 5;simp only [List.getElem?_cons_zero, List.getElem?_cons_succ] at cs_0 cs_1 cs_2 cs_3 cs_4 cs_5 ck_0 ck_1 ck_2 ck_3 ck_4 ck_5
  go_wp2_with fail
  refine (coDn_same (by omega) d1 j1).mono ?_;rintro ee w12 ⟨rfl, b⟩;clear cs_0 cs_1 cs_2 cs_3 cs_4 cs_5 ck_0 ck_1 ck_2 ck_3 ck_4 ck_5;replace BB := btr BB b;replace P := P.below b;replace x := x.below b;replace i1 := i1.below b;replace i2 := i2.below b;replace d1 := d1.below b;replace s := s.below b;replace ki1 := ki1.below b;replace j1 := j1.below b;replace g1 := g1.below b;replace k := k.below b;have z12 := b.size;clear b;have cx_0 := x.cell 0;have cx_1 := x.cell 1;have cx_2 := x.cell 2;have cx_3 := x.cell 3;have cs_0 := s.cell 0;have cs_1 := s.cell 1;have cs_2 := s.cell 2;have cs_3 := s.cell 3;have cs_4 := s.cell 4;have cs_5 := s.cell 5;have ck_0 := k.cell 0;have ck_1 := k.cell 1;have ck_2 := k.cell 2;have ck_3 := k.cell 3;have ck_4 := k.cell 4;have ck_5 := k.cell 5;simp only [List.getElem?_cons_zero, List.getElem?_cons_succ] at cx_0 cx_1 cx_2 cx_3 cs_0 cs_1 cs_2 cs_3 cs_4 cs_5 ck_0 ck_1 ck_2 ck_3 ck_4 ck_5
  go_wp2_with fail
  refine (iclkready_any cl ad N c ga gn gc sa 3 sc ss G S true 0 ka 3 kc S ja cl.toNat jc (List.replicate cl.toNat noD) none 0 0 [] qa gn qc (List.replicate gn noG) P ⟨ki1, by omega, (DX.dsg j1), List.length_replicate, by omega, fun i hi => by simp at hi, rfl, by omega, (GX.gsg g1), List.length_replicate, by omega⟩ (fun w' h' => HTB.out w' (btr BB h'))).mono ?_;rintro ee w13 ⟨rfl, b⟩;rw [HCN.out.1, HCN.out.2];clear cx_0 cx_1 cx_2 cx_3 cs_0 cs_1 cs_2 cs_3 cs_4 cs_5 ck_0 ck_1 ck_2 ck_3 ck_4 ck_5;replace BB := btr BB b;replace P := P.below b;replace x := x.below b;replace i1 := i1.below b;replace i2 := i2.below b;replace d1 := d1.below b;replace s := s.below b;replace ki1 := ki1.below b;replace j1 := j1.below b;replace g1 := g1.below b;replace k := k.below b;have z13 := b.size;clear b
  go_wp2
  go_ret
  exact ⟨rfl, BB⟩
 go_enter Tryz.func3, Tryz.ntmps3
 go_wp2
 go_ret
 exact ⟨rfl, Below.refl _ _⟩
/-! ### The row's step -/
theorem tab_of {W : World} (h : laidMetH Tryz.prog Rows.fnSitNewRow.laid W) : Lib.TabIs Tryz.prog W "internal/strconv.uint64pow10" .u64 Lib.pow10Tab := by
 rw [MakeChecks.laidMetH_plain _ _ _ (by kernel_rfl)] at h;have h2 : laidMet Tryz.prog [("internal/strconv.uint64pow10", Lib.tabData .u64 Lib.pow10Tab)] W := h.tail.tail
 exact Lib.tabIs_of_head (g := 1) (t := 271) (e := 265) (n := 20) (by kernel_rfl) (by kernel_rfl) Tryz.underlying271 Tryz.underlying265 (by kernel_rfl) (by kernel_rfl) h2
theorem lifted (os : Os) (started : os.Started) (H : Type) (enc : TypeId × Value → H) :
  ReturnsInHanded {} Tryz.checked os 3 .any (fun w args => (Rows.fnSitNewSpec.pre enc Tryz.prog Tryz.f3 Rows.fnSitNewRow.domain false w args ∧ laidMetH Tryz.prog Rows.fnSitNewRow.laid w) ∧ sizedMet enc Tryz.prog Tryz.f3 (OpenSpec.ofChange Rows.fnSitNewSpec) false w args) (Rows.fnSitNewSpec.post enc Tryz.prog Tryz.f3 false true false false) := by
 refine returnsInHanded_of_change_and (C := Tryz.checked) (X := fun w _ => laidMetH Tryz.prog Rows.fnSitNewRow.laid w) (fun _ _ _ hh h => h.of_heap hh) own started (by kernel_rfl) Tryz.func3
  (ChangeSpec.witness_shaped (enc := enc) (C := Tryz.checked) (os := os) (X := fun w _ => laidMetH Tryz.prog Rows.fnSitNewRow.laid w) false (World.laidAll Tryz.prog os Rows.fnSitNewRow.laid) #[.slice none 0 0] 8 (World.laidAll_os _ _ _)
   (World.shaped_of_ZipB (by kernel_rfl) (by kernel_rfl)) (by kernel_rfl) (by kernel_rfl) (by kernel_rfl)
   (by rw [MakeChecks.laidMetH_plain _ _ _ (by kernel_rfl)]; exact laidMet_laidAll _ (by kernel_rfl) (by kernel_rfl))) ?_
 intro W base args ds gs before hval0 hW hcnd _ hL _;have hval : ∀ (j : Nat) t v, Tryz.f3.params[j]? = some t → args[j]? = some v → Value.okWide Tryz.prog W .any base t v := hval0;have hW' := hW;obtain ⟨p, q, hA0, hV, rfl, hfz, hnd⟩ := hW;have hA : DataW.TrodAll enc Tryz.prog W 0 (fun _ => true) true Tryz.f3.params.toList args.toList ds p := hA0;rw [Tryz.params3] at hA hval;obtain ⟨v0, vs0, d0, ds0, p0, q0, hargs, rfl, rfl, h0, r0⟩ := trodAll_cons hA;obtain ⟨rfl, rfl, rfl⟩ := trodAll_nil r0;obtain rfl : args = #[v0] := by cases args; simp_all
 obtain ⟨rfl, rfl⟩ := trodVars_none hV;have k0 := h0;have lt0 : ∀ x ∈ p0, x.block < W.heap.size := by obtain ⟨m, hm⟩ := k0; exact DataW.trod_lt m _ _ _ hm
 obtain ⟨a0, n0, cap0, C0, rfl, hC0, hn0⟩ := open_bytesT (hval 0 22 v0 rfl rfl) h0;clear hA0 hval0;refine (walk W a0 n0 cap0 C0 hC0 hn0 (Lib.tabBelow_of_tabIs (tab_of hL))).mono fun e W' ⟨he, bel⟩ => ?_;subst he
 exact ⟨_, rfl, _, _, _, [], _, [], hW', trodAll_mk1 (shut_bool Tryz.underlying4 _), (trodAll_cons_mk (Below.trod laidOut (by kernel_rfl) (of_decide_eq_true (by kernel_rfl)) k0 bel lt0) trodAll_mk0), rfl, bel.frame _, fun h => by cases h⟩
theorem over : Rows.fnSitNewRow.holds Tryz.pinned (OpenSpec.ofChange Rows.fnSitNewSpec) :=
 OpenClaim.holds_of_wide 3 Tryz.f3 rfl rfl rfl rfl rfl rfl rfl ⟨rfl, rfl, rfl, rfl, rfl⟩ rfl rfl rfl rfl rfl (by kernel_rfl) Tryz.func3 (by kernel_rfl)
  (of_decide_eq_true (by kernel_rfl)) (by unfold Func.isWrapper; first | (rw [if_pos (by decide +kernel)]; kernel_rfl) | (rw [if_neg (by decide +kernel)]; exact ⟨rfl, rfl⟩))
  (fun os started H enc _ => lifted os started H enc)
end Go.Proofs.YtpmihhbgjimpmaaGreatDoor.fnSitNew
namespace Go.Proofs.YtpmihhbgjimpmaaGreatDoor
theorem fnSitNew_holds : Rows.FnSitNewCardSaid :=
 Claim7.holds_tied_plain_at .later [] [.data, .data, .data] true Rows.fnSitNewCard.stood.harness Rows.fnSitNewCard.stood.looks fnSitNew.over (fun _ h => by cases h) (by kernel_rfl) (fun _ h => by cases h) fnSitNew_row_tie rfl ⟨rfl, rfl⟩ (by kernel_rfl) rfl
  (fun f fn hf hfn => by
   obtain rfl : f = 3 := Option.some.inj ((show Tryz.prog.funcNamed Rows.fnSitNewRow.func = some 3 by kernel_rfl).symm.trans hf) |>.symm
   obtain rfl : fn = Tryz.f3 := (Option.some.inj (Tryz.func3.symm.trans hfn)).symm
   exact ⟨by kernel_rfl, fun j t ht => by
    rw [Tryz.params3] at ht;have hm : t ∈ [22] := by simpa using Array.mem_of_getElem? ht
    have hall : ([22].all fun u => !Tryz.prog.wantsStandIn u) = true := by kernel_rfl
    exact (show Tryz.prog.wantsStandIn t = false by simpa using List.all_eq_true.1 hall t hm)⟩)
  (by kernel_rfl)
#print axioms fnSitNew_holds
end Go.Proofs.YtpmihhbgjimpmaaGreatDoor
