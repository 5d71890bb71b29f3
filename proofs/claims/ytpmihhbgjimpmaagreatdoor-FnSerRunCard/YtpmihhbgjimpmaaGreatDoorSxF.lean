/-
  Lemmas that the claim's last text rests on.
-/
import Derived.Test.YtpmihhbgjimpmaaGreatDoorSxE
namespace Go.Proofs.YtpmihhbgjimpmaaGreatDoor
open Go.RowKit Go.ChangeShapes Go.WideShapes Go.ChangeAt Go.Joins Go.Deep
open Option.some renaming injEq → qA
open Addr.mk renaming injEq → qB
open World renaming size_alloc → qC
open List renaming getElem?_eq_getElem → qD, length_append → qE, length_cons → qF, length_nil → qG
open Nat renaming le_refl → qH, zero_le → qI
set_option linter.unusedVariables false
set_option maxRecDepth 100000
set_option maxHeartbeats 25600000
variable {B N R c cap g k m n : Nat} {W w : World} {a ad : Option Addr} {bs : List Int} {s : L2V} {ss : List L2V}
theorem flatL_set : ∀ (ls : List LV) (k r : Nat) (l' : LV) (u : Value), k < ls.length -> r < 6 -> l'.cs = (ls[k]?.getD noLV).cs.set r u -> (ls.set k l').flatMap LV.cs = (ls.flatMap LV.cs).set (k * 6 + r) u := by
 intro ls
 induction ls with
 | nil => intro k r l' u hk; simp at hk
 | cons g gs ih =>
  intro k r l' u hk hr hc
  rcases k with _ | k
  ·simp only [List.getElem?_cons_zero, Option.getD_some] at hc;simp only [List.set_cons_zero, List.flatMap_cons, Nat.zero_mul, Nat.zero_add, hc];rw [List.set_append_left _ _ (by simp [LV.cs]; omega)]
  simp only [List.getElem?_cons_succ] at hc;simp only [List.set_cons_succ, List.flatMap_cons];rw [ih k r l' u (by simpa using hk) hr hc, List.set_append_right _ _ (by simp [LV.cs]; omega)];have e : (k + 1) * 6 + r - g.cs.length = k * 6 + r := by simp [LV.cs]; omega
  rw [e]
theorem two_lv {P : LV -> Prop} {l m : LV} (h0 : P l) (h1 : P m) : ∀ i, i < [l, m].length -> P ([l, m][i]?.getD noLV) := fun i hi => by
 rcases i with _ | _ | i
 ·exact h0
 ·exact h1
 simp only [qF, qG] at hi; omega
def lenOf : Value -> Nat
 | .slice _ n _ => n
 | _ => 0
theorem getD_set {ls : List LV} {i : Nat} {l' : LV} (hk : k < ls.length) : (ls.set k l')[i]?.getD noLV = if i = k then l' else ls[i]?.getD noLV := by
 by_cases h : i = k
 ·subst h; rw [if_pos rfl, List.getElem?_set_self hk]; rfl
 rw [if_neg h, List.getElem?_set_ne (fun e => h e.symm)]
section
variable {wL W W' : World} {R : Nat} {a : Option Addr} {n cap : Nat} {bs : List Int} {q : Int} {v : Value} {ls : List LV}
theorem JL.set {r : Nat} {l' : LV} {u : Value} (j : JL wL R a n cap bs q (.slice (some ⟨g, 0, none⟩) N c) ls W) (hN : ls.length = N) (hk : k < ls.length) (hr : r < 6) (hc : l'.cs = (ls[k]?.getD noLV).cs.set r u) (h1 : u.oneCell' = true)
  (hat : l'.f.At W) (ha : ∀ b o, l'.f.a = some ⟨b, o, none⟩ -> wL.heap.size <= b /\ b < W.heap.size /\ g ≠ b) (hcc : ∀ b o, l'.f.c = some ⟨b, o, none⟩ -> wL.heap.size <= b /\ b < W.heap.size /\ g ≠ b) : JL wL R a n cap bs q (.slice (some ⟨g, 0, none⟩) N c) (ls.set k l') (W.setCell ⟨g, k * 6 + r, none⟩ u) := by
 have hg := j.o.lt g rfl;have lR := j.lR;have T : Touch (fun x => x = g) W (W.setCell ⟨g, k * 6 + r, none⟩ u) := Touch.setCell (S := fun x => x = g) (Touch.refl _ _) rfl _;have o := j.o;rw [hN] at o;have hs : (W.setCell ⟨g, k * 6 + r, none⟩ u).heap.size = W.heap.size := size_setCell _ _ _;have nb : ∀ i, i < ls.length -> ∀ b o, (ls[i]?.getD noLV).f.a = some ⟨b, o, none⟩ -> ¬ b = g := fun i hi b o e h => (j.na i hi b o e).2.2 (by rw [h]; rfl);have nb2 : ∀ i, i < ls.length -> ∀ b o, (ls[i]?.getD noLV).f.c = some ⟨b, o, none⟩ -> ¬ b = g := fun i hi b o e h => (j.nc i hi b o e).2.2 (by rw [h]; rfl);refine ⟨j.t.setNewF hg.1 _ _, j.r.touch T (by omega) (fun h0 b o e h => by have := j.lb h0 b o e; omega), ?_, fun i hi => ?_, fun i hi b o e => ?_, fun i hi b o e => ?_, j.lR, j.lb⟩
 ·rw [List.length_set, hN, flatL_set ls k r l' u hk hr hc]
  exact (World.ownsRow.stored o (k * 6 + r) u).1
 ·rw [List.length_set] at hi;rw [getD_set hk]
  by_cases h : i = k
  ·rw [if_pos h]; exact hat.off T (fun b o e h2 => (ha b o e).2.2 h2.symm) (fun b o e h2 => (hcc b o e).2.2 h2.symm)
  rw [if_neg h]; exact (j.at' i hi).off T (nb i hi) (nb2 i hi)
 ·rw [List.length_set] at hi;rw [getD_set hk] at e
  by_cases h : i = k
  ·rw [if_pos h] at e; have h3 := ha b o e; exact ⟨h3.1, by omega, fun e2 => h3.2.2 (by simpa [Value.ownBlock] using e2)⟩
  rw [if_neg h] at e; have h3 := j.na i hi b o e; exact ⟨h3.1, by omega, h3.2.2⟩
 rw [List.length_set] at hi;rw [getD_set hk] at e
 by_cases h : i = k
 ·rw [if_pos h] at e; have h3 := hcc b o e; exact ⟨h3.1, by omega, fun e2 => h3.2.2 (by simpa [Value.ownBlock] using e2)⟩
 rw [if_neg h] at e; have h3 := j.nc i hi b o e; exact ⟨h3.1, by omega, h3.2.2⟩
theorem JL.apps {ns : List LV} {H : Nat} (j : JL wL R a n cap bs q v ls W) (hk : ls.length = k) (hm : ns.length = m) (hl : ∀ i, i < ns.length -> (ns[i]?.getD noLV).f.At W) (la : ∀ i, i < ns.length -> ∀ b o, (ns[i]?.getD noLV).f.a = some ⟨b, o, none⟩ -> wL.heap.size <= b /\ b < H /\ v.ownBlock ≠ some b) (lc : ∀ i, i < ns.length -> ∀ b o, (ns[i]?.getD noLV).f.c = some ⟨b, o, none⟩ -> wL.heap.size <= b /\ b < H /\ v.ownBlock ≠ some b) (hH : H <= W.heap.size) (hsz : ∀ i, i < ls.length -> (∀ b o, (ls[i]?.getD noLV).f.a = some ⟨b, o, none⟩ -> b < H) /\ (∀ b o, (ls[i]?.getD noLV).f.c = some ⟨b, o, none⟩ -> b < H))
  (hown : W'.ownsRow wL.heap.size 153 6 (.slice (some ⟨g, 0, none⟩) (k + m) c) (k + m) (ls.flatMap LV.cs ++ ns.flatMap LV.cs)) (hg : W.grownBy W' v.ownBlock) (hat : v.ownBlock = some g \/ H <= g) : JL wL R a n cap bs q (.slice (some ⟨g, 0, none⟩) (k + m) c) (ls ++ ns) W' := by
 have hr : ∀ x, v.ownBlock = some x -> wL.heap.size <= x := fun x hx => (j.o.lt x hx).1;have lR := j.lR;have T : Touch (fun x => v.ownBlock = some x) W W' := ⟨hg.os, hg.tape, hg.output, hg.size, fun x hx hs => hg.block x hx (fun e => hs e.symm)⟩
 have hn : ∀ b, v.ownBlock ≠ some b -> b < H -> (Value.slice (some ⟨g, 0, none⟩) (k + m) c).ownBlock ≠ some b := fun b h1 h2 e => by
  simp only [Value.ownBlock, qA] at e
  rcases hat with h | h
  ·rw [h] at h1; exact h1 (by rw [e])
  omega
 have key : ∀ i, i < (ls ++ ns).length -> (i < ls.length /\ (ls ++ ns)[i]?.getD noLV = ls[i]?.getD noLV) \/ (i - ls.length < ns.length /\ (ls ++ ns)[i]?.getD noLV = ns[i - ls.length]?.getD noLV) := fun i hi => by
  by_cases h : i < ls.length
  ·left; exact ⟨h, by rw [List.getElem?_append_left h]⟩
  right
  rw [qE] at hi
  exact ⟨by omega, by rw [List.getElem?_append_right (by omega)]⟩
 have hs := hg.size;refine ⟨j.t.grown hg hr, j.r.touch T (fun e => by have := hr _ e; omega) (fun h0 b o hab e => by have := j.lb h0 b o hab; have := hr _ e; omega), ?_, fun i hi => ?_, fun i hi b o e => ?_, fun i hi b o e => ?_, j.lR, j.lb⟩
 ·rw [qE, hk, hm, List.flatMap_append]
  exact hown
 ·rcases key i hi with ⟨h, e⟩ | ⟨h, e⟩
  ·rw [e]; exact (j.at' i h).off T (fun b o e h' => (j.na i h b o e).2.2 h') (fun b o e h' => (j.nc i h b o e).2.2 h')
  rw [e]; exact (hl _ h).off T (fun b o e h' => (la _ h b o e).2.2 h') (fun b o e h' => (lc _ h b o e).2.2 h')
 ·rcases key i hi with ⟨h, e'⟩ | ⟨h, e'⟩
  ·rw [e'] at e; have h3 := j.na i h b o e; exact ⟨h3.1, by omega, hn b h3.2.2 ((hsz i h).1 b o e)⟩
  rw [e'] at e; have h3 := la _ h b o e; exact ⟨h3.1, by omega, hn b h3.2.2 h3.2.1⟩
 rcases key i hi with ⟨h, e'⟩ | ⟨h, e'⟩
 ·rw [e'] at e; have h3 := j.nc i h b o e; exact ⟨h3.1, by omega, hn b h3.2.2 ((hsz i h).2 b o e)⟩
 rw [e'] at e; have h3 := lc _ h b o e; exact ⟨h3.1, by omega, hn b h3.2.2 h3.2.1⟩
end
theorem any_f (R : Nat) (a : Option Addr) (n cap : Nat) (bs : List Int) (p M : Int) {w : World} (rd : Rd w R a n cap bs p) (hp : 0 <= p) (hp1 : p <= 7000000) (hM : 1 <= M) (hM1 : M <= 1000) (ha : 0 < n -> ∀ b o, a = some ⟨b, o, none⟩ -> b < w.heap.size) :
  Calls Tryz.prog 126 #[.pointer (some ⟨R, 0, none⟩), .int .i64 M] w fun e w' => ∃ ad N c ls q, e = .returned (.slice ad N c) /\ JL w R a n cap bs q (.slice ad N c) ls w' /\ ls.length = N /\ N <= 8 /\ p <= q /\ q <= p + 120 := by
 have hRl := rd.c.lt;obtain ⟨i0, hi, hz0, hz1, hz2⟩ := info_parts Tryz.infoLn
 go_enter Tryz.func126, Tryz.ntmps126
 go_wp2_with fail
 refine (act_f R a n cap bs p rd hp (by omega) ha).mono ?_;rintro e w1 ⟨ad, N, c, ls, q, rfl, j, hN, hok, q0, q1⟩;have HN : Hid (ls.length = N) := hN;have hN6 : N <= 6 := by unfold actB at hok; simp only [Bool.and_eq_true, decide_eq_true_eq] at hok; omega
 clear hN hok rd
 by_cases h0 : N = 0
 ·subst h0
  go_wp2
  go_ret
  exact ⟨_, 0, _, ls, q, rfl, j, HN.out, by omega, by omega, by omega⟩
 have h0' : ((N : Int) == 0) = false := by simp; omega
 have hNp : 0 < N := by omega
 obtain ⟨g, rfl⟩ : ∃ g, ad = some ⟨g, 0, none⟩ := by
  rcases j.o.2 with ⟨_, h⟩ | ⟨g, cap', cur, hv, _⟩
  ·rw [HN.out] at h; omega
  simp only [Value.slice.injEq] at hv
  exact ⟨g, hv.1⟩
 go_wp2_with fail
 refine (pick_any R a n cap bs (q) M j.r).mono ?_;rintro e w2 ⟨ru, hu0, hu1, rfl, t5, R5⟩;obtain ⟨u, rfl⟩ := Int.eq_ofNat_of_zero_le hu0;replace j := j.pick t5 R5;clear t5 R5 hu0
 by_cases hu : 0 < u
 ·have hu' : (0 : Int) < (u : Int) := by omega
  go_wp2
  go_ret
  exact ⟨_, N, c, ls, _, rfl, j, HN.out, by omega, by omega, by omega⟩
 have hu' : ¬ (0 : Int) < (u : Int) := by omega
 go_wp2_with fail
 refine (pick_any R a n cap bs (q + 1) (N : Int) j.r).mono ?_;rintro e w4 ⟨rk, hk0, hk1, rfl, t5, R5⟩;obtain ⟨k, rfl⟩ := Int.eq_ofNat_of_zero_le hk0;replace j := j.pick t5 R5;clear t5 R5 hk0;have hkN : k < N := by omega
 have hkN' : (k : Int) < (N : Int) := by omega
 go_wp2_with fail
 refine (pick_any R a n cap bs (q + 1 + 1) 6 j.r).mono ?_;rintro e w5 ⟨rs, hs0, hs1, rfl, t5, R5⟩;obtain ⟨s, rfl⟩ := Int.eq_ofNat_of_zero_le hs0;replace j := j.pick t5 R5;clear t5 R5 hs0
 rcases (show s = 0 \/ s = 1 \/ s = 2 \/ s = 3 \/ s = 4 \/ s = 5 from by omega) with rfl | rfl | rfl | rfl | rfl | rfl
 ·have al := (Below.refl w5.heap.size w5).alloc (qH _) (.cells #[.int .i64 0, .int .i64 5, .int .i64 4, .int .i64 1] 3);have lb := Cel.new w5 [.int .i64 0, .int .i64 5, .int .i64 4, .int .i64 1] 3;have hsz := j.t.size;have nl : w5.heap.size ≠ R := by have := j.lR; omega
  replace j := j.below al;clear al
  go_wp2_with fail
  refine (pick_any R a n cap bs (q + 1 + 1 + 1) 4 j.r).mono ?_;rintro e w6 ⟨ri, hi0, hi1, rfl, t5, R5⟩;obtain ⟨i, rfl⟩ := Int.eq_ofNat_of_zero_le hi0;replace j := j.pick t5 R5;replace lb := lb.touch t5 nl;clear t5 R5 hi0;have hi' : (i : Int) < 4 := by omega
  have hc := lit_cell (xs := [0, 5, 4, 1]) lb (j := i) (by simp only [qF, qG]; omega);generalize ([0, 5, 4, 1] : List Int)[i]?.getD 0 = y at hc;clear lb;have o := j.o;rw [HN.out] at o;have cc := o.cellAt (k * 6 + 0) (by omega);rw [flatL_at ls k (by rw [HN.out]; exact hkN) 0 (by omega)] at cc;have cc' : w6.cell? ⟨g, k * 6 + 0, none⟩ = some (.int .i64 (ls[k]?.getD noLV).kind) := cc;have ff : w6.frozen? ⟨g, k * 6 + 0, none⟩ = false := o.frozenAt _;clear cc o;rw [Nat.add_zero] at cc' ff;obtain ⟨l, hl⟩ : ∃ l, l = ls[k]?.getD noLV := ⟨_, rfl⟩
  have j' := j.set (k := k) (r := 0) (l' := ⟨y, l.pot, l.skip, l.f⟩) (u := .int .i64 y) HN.out (by rw [HN.out]; exact hkN) (by omega) (by rw [<- hl]; rfl) rfl (by rw [hl]; exact j.at' k (by rw [HN.out]; exact hkN)) (fun b o e => by (have h := j.na k (by rw [HN.out]; exact hkN) b o (by rw [<- hl]; exact e); exact ⟨h.1, h.2.1, fun e2 => h.2.2 (by rw [e2]; rfl)⟩)) (fun b o e => by (have h := j.nc k (by rw [HN.out]; exact hkN) b o (by rw [<- hl]; exact e); exact ⟨h.1, h.2.1, fun e2 => h.2.2 (by rw [e2]; rfl)⟩));clear j hl;rw [Nat.add_zero] at j'
  go_wp2
  go_ret
  exact ⟨_, N, c, _, _, rfl, j', by rw [List.length_set]; exact HN.out, by omega, by omega, by omega⟩
 ·have al := (Below.refl w5.heap.size w5).alloc (qH _) (.cells #[.int .i64 (-1), .int .i64 3, .int .i64 2] 3);have lb := Cel.new w5 [.int .i64 (-1), .int .i64 3, .int .i64 2] 3;have hsz := j.t.size;have nl : w5.heap.size ≠ R := by have := j.lR; omega
  replace j := j.below al;clear al
  go_wp2_with fail
  refine (pick_any R a n cap bs (q + 1 + 1 + 1) 3 j.r).mono ?_;rintro e w6 ⟨ri, hi0, hi1, rfl, t5, R5⟩;obtain ⟨i, rfl⟩ := Int.eq_ofNat_of_zero_le hi0;replace j := j.pick t5 R5;replace lb := lb.touch t5 nl;clear t5 R5 hi0;have hi' : (i : Int) < 3 := by omega
  have hc := lit_cell (xs := [-1, 3, 2]) lb (j := i) (by simp only [qF, qG]; omega);generalize ([-1, 3, 2] : List Int)[i]?.getD 0 = y at hc;clear lb;have o := j.o;rw [HN.out] at o;have cc := o.cellAt (k * 6 + 1) (by omega);rw [flatL_at ls k (by rw [HN.out]; exact hkN) 1 (by omega)] at cc;have cc' : w6.cell? ⟨g, k * 6 + 1, none⟩ = some (.int .i64 (ls[k]?.getD noLV).pot) := cc;have ff : w6.frozen? ⟨g, k * 6 + 1, none⟩ = false := o.frozenAt _;clear cc o;obtain ⟨l, hl⟩ : ∃ l, l = ls[k]?.getD noLV := ⟨_, rfl⟩
  have j' := j.set (k := k) (r := 1) (l' := ⟨l.kind, y, l.skip, l.f⟩) (u := .int .i64 y) HN.out (by rw [HN.out]; exact hkN) (by omega) (by rw [<- hl]; rfl) rfl (by rw [hl]; exact j.at' k (by rw [HN.out]; exact hkN)) (fun b o e => by (have h := j.na k (by rw [HN.out]; exact hkN) b o (by rw [<- hl]; exact e); exact ⟨h.1, h.2.1, fun e2 => h.2.2 (by rw [e2]; rfl)⟩)) (fun b o e => by (have h := j.nc k (by rw [HN.out]; exact hkN) b o (by rw [<- hl]; exact e); exact ⟨h.1, h.2.1, fun e2 => h.2.2 (by rw [e2]; rfl)⟩));clear j hl
  go_wp2
  go_ret
  exact ⟨_, N, c, _, _, rfl, j', by rw [List.length_set]; exact HN.out, by omega, by omega, by omega⟩
 ·have al := (Below.refl w5.heap.size w5).alloc (qH _) (.cells #[.int .i64 0, .int .i64 (-1), .int .i64 7, .int .i64 6] 3);have lb := Cel.new w5 [.int .i64 0, .int .i64 (-1), .int .i64 7, .int .i64 6] 3;have hsz := j.t.size;have nl : w5.heap.size ≠ R := by have := j.lR; omega
  replace j := j.below al;clear al
  go_wp2_with fail
  refine (pick_any R a n cap bs (q + 1 + 1 + 1) 4 j.r).mono ?_;rintro e w6 ⟨ri, hi0, hi1, rfl, t5, R5⟩;obtain ⟨i, rfl⟩ := Int.eq_ofNat_of_zero_le hi0;replace j := j.pick t5 R5;replace lb := lb.touch t5 nl;clear t5 R5 hi0;have hi' : (i : Int) < 4 := by omega
  have hc := lit_cell (xs := [0, -1, 7, 6]) lb (j := i) (by simp only [qF, qG]; omega);generalize ([0, -1, 7, 6] : List Int)[i]?.getD 0 = y at hc;clear lb;have o := j.o;rw [HN.out] at o;have cc := o.cellAt (k * 6 + 2) (by omega);rw [flatL_at ls k (by rw [HN.out]; exact hkN) 2 (by omega)] at cc;have cc' : w6.cell? ⟨g, k * 6 + 2, none⟩ = some (.int .i64 (ls[k]?.getD noLV).skip) := cc;have ff : w6.frozen? ⟨g, k * 6 + 2, none⟩ = false := o.frozenAt _;clear cc o;obtain ⟨l, hl⟩ : ∃ l, l = ls[k]?.getD noLV := ⟨_, rfl⟩
  have j' := j.set (k := k) (r := 2) (l' := ⟨l.kind, l.pot, y, l.f⟩) (u := .int .i64 y) HN.out (by rw [HN.out]; exact hkN) (by omega) (by rw [<- hl]; rfl) rfl (by rw [hl]; exact j.at' k (by rw [HN.out]; exact hkN)) (fun b o e => by (have h := j.na k (by rw [HN.out]; exact hkN) b o (by rw [<- hl]; exact e); exact ⟨h.1, h.2.1, fun e2 => h.2.2 (by rw [e2]; rfl)⟩)) (fun b o e => by (have h := j.nc k (by rw [HN.out]; exact hkN) b o (by rw [<- hl]; exact e); exact ⟨h.1, h.2.1, fun e2 => h.2.2 (by rw [e2]; rfl)⟩));clear j hl
  go_wp2
  go_ret
  exact ⟨_, N, c, _, _, rfl, j', by rw [List.length_set]; exact HN.out, by omega, by omega, by omega⟩
 ·go_wp2_with fail
  refine (form_f R a n cap bs (q + 1 + 1 + 1) 2 j.r (by omega) (by omega) (by omega) (by omega) j.r.ha).mono ?_;rintro e w6 ⟨B1, nC, cC, B2, nD, cD, K, LC, LD, q6, rfl, fm⟩;have hsz5 := (j.o.lt g rfl).2;have hszL := j.t.size;replace j := j.pick fm.t fm.r;have y0 := fm.q0;have y1 := fm.q1;have z1 := fm.b1;have z2 := fm.b2;have GF := fm.fa K;have s1 := GF.C.blk fm.c1;have s2 := GF.D.blk fm.d1;clear fm;have o := j.o;rw [HN.out] at o;obtain ⟨l, hl⟩ : ∃ l, l = ls[k]?.getD noLV := ⟨_, rfl⟩
  have hkl : k < ls.length := by rw [HN.out]; exact hkN
  have d3 := o.cellAt (k * 6 + 3) (by omega);rw [flatL_at ls k hkl 3 (by omega), <- hl] at d3;have e3 : w6.cell? ⟨g, k * 6 + 3, none⟩ = some (.slice l.f.a l.f.n l.f.cap) := d3;have f3 : w6.frozen? ⟨g, k * 6 + 3, none⟩ = false := o.frozenAt _;have d4 := o.cellAt (k * 6 + 4) (by omega);rw [flatL_at ls k hkl 4 (by omega), <- hl] at d4;have e4 : w6.cell? ⟨g, k * 6 + 4, none⟩ = some (.slice l.f.c l.f.m l.f.cap') := d4;have f4 : w6.frozen? ⟨g, k * 6 + 4, none⟩ = false := o.frozenAt _;have d5 := o.cellAt (k * 6 + 5) (by omega);rw [flatL_at ls k hkl 5 (by omega), <- hl] at d5;have e5 : w6.cell? ⟨g, k * 6 + 5, none⟩ = some (.int .i64 l.f.K) := d5;have f5 : w6.frozen? ⟨g, k * 6 + 5, none⟩ = false := o.frozenAt _;clear d3 d4 d5 o;have hat := j.at' k hkl;rw [<- hl] at hat;have hna := j.na k hkl;have hnc := j.nc k hkl;rw [<- hl] at hna hnc;have fa1 : ∀ b o, (some ⟨B1, 0, none⟩ : Option Addr) = some ⟨b, o, none⟩ -> w.heap.size <= b /\ b < w6.heap.size /\ g ≠ b := fun b o e => by (simp only [qA, qB] at e; exact ⟨by omega, by omega, by omega⟩)
  have fa2 : ∀ b o, (some ⟨B2, 0, none⟩ : Option Addr) = some ⟨b, o, none⟩ -> w.heap.size <= b /\ b < w6.heap.size /\ g ≠ b := fun b o e => by (simp only [qA, qB] at e; exact ⟨by omega, by omega, by omega⟩)
  have fo2 : ∀ b o, l.f.c = some ⟨b, o, none⟩ -> w.heap.size <= b /\ b < w6.heap.size /\ g ≠ b := fun b o e => ⟨(hnc b o e).1, (hnc b o e).2.1, fun e2 => (hnc b o e).2.2 (by rw [e2]; rfl)⟩
  have j1 := j.set (k := k) (r := 3) (l' := ⟨l.kind, l.pot, l.skip, ⟨some ⟨B1, 0, none⟩, nC, cC, l.f.c, l.f.m, l.f.cap', l.f.K, LC, l.f.D⟩⟩) (u := .slice (some ⟨B1, 0, none⟩) nC cC) HN.out hkl (by omega) (by rw [<- hl]; rfl) rfl ⟨GF.C, hat.D, GF.hn, hat.hm⟩ fa1 fo2;have sz1 : (w6.setCell ⟨g, k * 6 + 3, none⟩ (.slice (some ⟨B1, 0, none⟩) nC cC)).heap.size = w6.heap.size := size_setCell _ _ _;have T1 : Touch (fun x => x = g) w6 (w6.setCell ⟨g, k * 6 + 3, none⟩ (.slice (some ⟨B1, 0, none⟩) nC cC)) := Touch.setCell (S := fun x => x = g) (Touch.refl _ _) rfl _;have GF1 := GF.off T1 (fun b o e h => (fa1 b o e).2.2 h.symm) (fun b o e h => (fa2 b o e).2.2 h.symm);have j2 := j1.set (k := k) (r := 4) (l' := ⟨l.kind, l.pot, l.skip, ⟨some ⟨B1, 0, none⟩, nC, cC, some ⟨B2, 0, none⟩, nD, cD, l.f.K, LC, LD⟩⟩) (u := .slice (some ⟨B2, 0, none⟩) nD cD) (by rw [List.length_set]; exact HN.out) (by rw [List.length_set]; exact hkl) (by omega) (by rw [getD_set hkl, if_pos rfl]; rfl) rfl ⟨GF1.C, GF1.D, GF1.hn, GF1.hm⟩ (by rw [sz1]; exact fa1) (by rw [sz1]; exact fa2);have sz2 : ((w6.setCell ⟨g, k * 6 + 3, none⟩ (.slice (some ⟨B1, 0, none⟩) nC cC)).setCell ⟨g, k * 6 + 4, none⟩ (.slice (some ⟨B2, 0, none⟩) nD cD)).heap.size = w6.heap.size := by rw [size_setCell]; exact sz1
  have T2 : Touch (fun x => x = g) w6 ((w6.setCell ⟨g, k * 6 + 3, none⟩ (.slice (some ⟨B1, 0, none⟩) nC cC)).setCell ⟨g, k * 6 + 4, none⟩ (.slice (some ⟨B2, 0, none⟩) nD cD)) := Touch.setCell (S := fun x => x = g) T1 rfl _;have GF2 := GF.off T2 (fun b o e h => (fa1 b o e).2.2 h.symm) (fun b o e h => (fa2 b o e).2.2 h.symm);have hk2 : k < (ls.set k ⟨l.kind, l.pot, l.skip, ⟨some ⟨B1, 0, none⟩, nC, cC, l.f.c, l.f.m, l.f.cap', l.f.K, LC, l.f.D⟩⟩).length := by rw [List.length_set]; exact hkl
  have j3 := j2.set (k := k) (r := 5) (l' := ⟨l.kind, l.pot, l.skip, ⟨some ⟨B1, 0, none⟩, nC, cC, some ⟨B2, 0, none⟩, nD, cD, K, LC, LD⟩⟩) (u := .int .i64 K) (by rw [List.length_set, List.length_set]; exact HN.out) (by rw [List.length_set]; exact hk2) (by omega) (by rw [getD_set hk2, if_pos rfl]; rfl) rfl ⟨GF2.C, GF2.D, GF2.hn, GF2.hm⟩ (by rw [sz2]; exact fa1) (by rw [sz2]; exact fa2);clear j j1 j2 GF GF1 GF2 T1 T2 hl hat hna hnc
  go_wp2
  go_ret
  exact ⟨_, N, c, _, _, rfl, j3, by rw [List.length_set, List.length_set, List.length_set]; exact HN.out, by omega, by omega, by omega⟩
 ·have HKN : Hid (k < N) := hkN
  go_wp2_with fail
  go_loopw [5] (fun v wr => ∃ (g' N' c' : Nat) (ls' : List LV) (q' : Int), v = .slice (some ⟨g', 0, none⟩) N' c' /\ N <= N' /\ N' <= 7 /\ ls'.length = N' /\ q' = q + 1 + 1 + 1 /\ JL w R a n cap bs q' v ls' wr) (fun v _ => 8 - (lenOf v))
  case atStart => exact ⟨g, N, c, ls, _, rfl, by omega, by omega, HN.out, rfl, j⟩
  case round =>
   clear j;obtain ⟨g', N', c', ls', q', rfl, hNN, hN7, hL, hq', j⟩ := hrel;have HL : Hid (ls'.length = N') := hL;clear hL
   by_cases h7 : N' <= 6
   ·have h7' : (N' : Int) <= 6 := by omega
    have hkN2 : (k : Int) < (N' : Int) := by omega
    have hkl : k < ls'.length := by rw [HL.out]; omega
    obtain ⟨b', o', e', hc, hat⟩ := j.g HL.out k hkl;simp only [qA, qB, and_true] at e';obtain ⟨rfl, rfl⟩ := e';obtain ⟨l, hl⟩ : ∃ l, l = ls'[k]?.getD noLV := ⟨_, rfl⟩
    rw [<- hl] at hc hat;have hna := j.na k hkl;have hnc := j.nc k hkl;rw [<- hl] at hna hnc;clear hl;obtain ⟨x0, x1, x2, x3, x4, x5⟩ := six_of hc;simp only [Nat.zero_add] at x0 x1 x2 x3 x4 x5;clear hc;have SZ : ∀ i, i < ls'.length -> (∀ b o, (ls'[i]?.getD noLV).f.a = some ⟨b, o, none⟩ -> b < wr.heap.size) /\ (∀ b o, (ls'[i]?.getD noLV).f.c = some ⟨b, o, none⟩ -> b < wr.heap.size) := fun i hi => ⟨fun b o e => (j.na i hi b o e).2.1, fun b o e => (j.nc i hi b o e).2.1⟩
    have al := (Below.refl wr.heap.size wr).alloc (qH _) (.cells #[.int .i64 l.kind, .int .i64 l.pot, .int .i64 l.skip, .slice l.f.a l.f.n l.f.cap, .slice l.f.c l.f.m l.f.cap', .int .i64 l.f.K] 153);have ja := j.below al;have hla := hat.below al;have hszA := ja.t.size;clear al j hat
    go_wp2_with (at_builtin; refine wpList_append_lies _ rfl (.tmp 80) (.tmp 85) 57 rfl w.heap.size 153 i0 _ 6 80 Tryz.underlying57 hi hz0 hz1 hz2 rfl (by omega) (.slice (some ⟨g', 0, none⟩) N' c') N' (ls'.flatMap LV.cs) (by rfl) (by have h := ja.o; rw [HL.out] at h; exact h) ⟨wr.heap.size, 0, none⟩ 1 1 l.cs (by rfl) (by rfl) (World.news_of_block (cs := #[.int .i64 l.kind, .int .i64 l.pot, .int .i64 l.skip, .slice l.f.a l.f.n l.f.cap, .slice l.f.c l.f.m l.f.cap', .int .i64 l.f.K]) (t := 153) (fr := (0, 0)) (heap_alloc_new wr _)) (by have h := flatL_one [l]; simpa using h) (by omega) (by unfold maxLen; omega) (by omega) hszA (wr.heap.size + 1) (by rw [qC]) ?_)
    intro g9 cp9 w9 hown hgrow hat9 _;have jn := ja.app (H := wr.heap.size) HL.out hla hna hnc (by rw [qC]; omega) SZ hown hgrow (by rcases hat9 with h | h; exact .inl h; exact .inr (by omega));clear hown hgrow ja hla x0 x1 x2 x3 x4 x5 hna hnc SZ
    go_wp2
    go_roundw
    case rel => exact ⟨g9, N' + 1, cp9, ls' ++ [l], _, rfl, by omega, by omega, by rw [qE, HL.out]; rfl, hq', jn⟩
    case measure => simp [lenOf]; omega
   have h7' : ¬ (N' : Int) <= 6 := by omega
   go_wp2
   go_ret
   exact ⟨_, N', c', rfl, by first | exact ⟨ls', ⟨q', j, by first | exact ⟨HL.out, by omega, by omega, by omega⟩ | omega⟩⟩ | (refine ⟨ls', ?_⟩; simp [HL.out]; exact ⟨q', j, by omega⟩) | (refine ⟨ls', ⟨q', j, ?_⟩, HL.out, ?_⟩ <;> omega)⟩
 have hgW := (j.o.lt g rfl).2;have hlo := j.t.size;have hRR := j.lR
 go_wp2_with fail
 refine (small_f R a n cap bs (q + 1 + 1 + 1) j.r (by omega) (by omega) j.r.ha).mono ?_;rintro e w6 ⟨BA, DA, LCA, LDA, KA, rfl, t5, R5, f5, _, _, _, _⟩;have zA1 := f5.b1;have zA2 := f5.b2;have lA1 := f5.k1.lt;have lA2 := f5.k2.lt;have sA := t5.size;have GA : FA w6 (some ⟨BA, 0, none⟩) 3 (some ⟨DA, 0, none⟩) 2 (LCA, LDA, KA) := ⟨f5.k1.ints' f5.l1, f5.k2.ints' f5.l2, by omega, by omega⟩
 replace j := j.pick t5 R5;clear t5 R5 f5
 go_wp2_with fail
 refine (small_f R a n cap bs (q + 1 + 1 + 1 + 6) j.r (by omega) (by omega) j.r.ha).mono ?_;rintro e w7 ⟨BE, DE, LCE, LDE, KE, rfl, t5, R5, f5, _, _, _, _⟩;have zE1 := f5.b1;have zE2 := f5.b2;have lE1 := f5.k1.lt;have lE2 := f5.k2.lt;have sE := t5.size;have GE : FA w7 (some ⟨BE, 0, none⟩) 3 (some ⟨DE, 0, none⟩) 2 (LCE, LDE, KE) := ⟨f5.k1.ints' f5.l1, f5.k2.ints' f5.l2, by omega, by omega⟩
 replace GA := GA.far t5 (lo := w5.heap.size) (fun k hk => by omega) zA1 zA2;replace j := j.pick t5 R5;clear t5 R5 f5;have SZ : ∀ i, i < ls.length -> (∀ b o, (ls[i]?.getD noLV).f.a = some ⟨b, o, none⟩ -> b < w7.heap.size) /\ (∀ b o, (ls[i]?.getD noLV).f.c = some ⟨b, o, none⟩ -> b < w7.heap.size) := fun i hi => ⟨fun b o e => (j.na i hi b o e).2.1, fun b o e => (j.nc i hi b o e).2.1⟩
 have al := (Below.refl w7.heap.size w7).alloc (qH _) (.cells #[.int .i64 1, .int .i64 0, .int .i64 1, .slice (some ⟨BA, 0, none⟩) 3 3, .slice (some ⟨DA, 0, none⟩) 2 2, .int .i64 KA, .int .i64 1, .int .i64 0, .int .i64 1, .slice (some ⟨BE, 0, none⟩) 3 3, .slice (some ⟨DE, 0, none⟩) 2 2, .int .i64 KE] 153);have ja := j.below al;replace GA := GA.below al;replace GE := GE.below al;have hszA := ja.t.size;clear al j
 go_wp2_with (at_builtin; refine wpList_append_lies _ rfl (.tmp 25) (.tmp 32) 57 rfl w.heap.size 153 i0 _ 6 80 Tryz.underlying57 hi hz0 hz1 hz2 rfl (by omega) (.slice (some ⟨g, 0, none⟩) N c) N (ls.flatMap LV.cs) (by rfl) (by have h := ja.o; rw [HN.out] at h; exact h) ⟨w7.heap.size, 0, none⟩ 2 2 [.int .i64 1, .int .i64 0, .int .i64 1, .slice (some ⟨BA, 0, none⟩) 3 3, .slice (some ⟨DA, 0, none⟩) 2 2, .int .i64 KA, .int .i64 1, .int .i64 0, .int .i64 1, .slice (some ⟨BE, 0, none⟩) 3 3, .slice (some ⟨DE, 0, none⟩) 2 2, .int .i64 KE] (by rfl) (by rfl) (World.news_of_block (cs := #[.int .i64 1, .int .i64 0, .int .i64 1, .slice (some ⟨BA, 0, none⟩) 3 3, .slice (some ⟨DA, 0, none⟩) 2 2, .int .i64 KA, .int .i64 1, .int .i64 0, .int .i64 1, .slice (some ⟨BE, 0, none⟩) 3 3, .slice (some ⟨DE, 0, none⟩) 2 2, .int .i64 KE]) (t := 153) (fr := (0, 0)) (heap_alloc_new w7 _)) (by simp [Value.oneCell']) (by omega) (by unfold maxLen; omega) (by omega) hszA (w7.heap.size + 1) (by rw [qC]) ?_)
 intro g9 cp9 w9 hown hgrow hat9 _
 have jn := ja.apps (ns := [⟨1, 0, 1, ⟨some ⟨BA, 0, none⟩, 3, 3, some ⟨DA, 0, none⟩, 2, 2, KA, LCA, LDA⟩⟩, ⟨1, 0, 1, ⟨some ⟨BE, 0, none⟩, 3, 3, some ⟨DE, 0, none⟩, 2, 2, KE, LCE, LDE⟩⟩]) (H := w7.heap.size) HN.out rfl (fun i hi => by (rcases i with _ | _ | i; exact ⟨GA.C, GA.D, GA.hn, GA.hm⟩; exact ⟨GE.C, GE.D, GE.hn, GE.hm⟩; simp only [qF, qG] at hi; omega)) (two_lv (P := fun x => ∀ b o, x.f.a = some ⟨b, o, none⟩ -> w.heap.size <= b /\ b < w7.heap.size /\ (Value.slice (some ⟨g, 0, none⟩) N c).ownBlock ≠ some b) (fun b o e => by have e9 : (some ⟨BA, 0, none⟩ : Option Addr) = some ⟨b, o, none⟩ := e; simp only [qA, qB] at e9; exact ⟨by omega, by omega, by simp only [Value.ownBlock, ne_eq, qA]; omega⟩) (fun b o e => by have e9 : (some ⟨BE, 0, none⟩ : Option Addr) = some ⟨b, o, none⟩ := e; simp only [qA, qB] at e9; exact ⟨by omega, by omega, by simp only [Value.ownBlock, ne_eq, qA]; omega⟩)) (two_lv (P := fun x => ∀ b o, x.f.c = some ⟨b, o, none⟩ -> w.heap.size <= b /\ b < w7.heap.size /\ (Value.slice (some ⟨g, 0, none⟩) N c).ownBlock ≠ some b) (fun b o e => by have e9 : (some ⟨DA, 0, none⟩ : Option Addr) = some ⟨b, o, none⟩ := e; simp only [qA, qB] at e9; exact ⟨by omega, by omega, by simp only [Value.ownBlock, ne_eq, qA]; omega⟩) (fun b o e => by have e9 : (some ⟨DE, 0, none⟩ : Option Addr) = some ⟨b, o, none⟩ := e; simp only [qA, qB] at e9; exact ⟨by omega, by omega, by simp only [Value.ownBlock, ne_eq, qA]; omega⟩)) (by rw [qC]; omega) SZ hown hgrow (by rcases hat9 with h | h; exact .inl h; exact .inr (by omega))
 clear hown hgrow ja SZ
 go_wp2
 go_ret
 exact ⟨_, N + 2, cp9, _, _, rfl, jn, by rw [qE, HN.out]; rfl, by omega, by omega, by omega⟩
structure AcQ (P : Nat -> Prop) (W : World) (s : L2V) : Prop where
 len : s.x.length = s.n
 g : LinesG W s.a s.x
 n8 : s.n <= 8
 pa : ∀ b o, s.a = some ⟨b, o, none⟩ -> P b
 pf : ∀ i, i < s.x.length -> (∀ b o, (s.x[i]?.getD noLV).f.a = some ⟨b, o, none⟩ -> P b) /\ (∀ b o, (s.x[i]?.getD noLV).f.c = some ⟨b, o, none⟩ -> P b)
section
variable {P P' : Nat -> Prop} {W W' : World} {s : L2V}
theorem AcQ.touch {S : Nat -> Prop} (h : AcQ P W s) (t : Touch S W W') (hS : ∀ b, P b -> ¬ S b) : AcQ P W' s :=
 ⟨h.len, h.g.off t (fun b o e => hS b (h.pa b o e)) (fun i hi => ⟨fun b o e => hS b ((h.pf i hi).1 b o e), fun b o e => hS b ((h.pf i hi).2 b o e)⟩), h.n8, h.pa, h.pf⟩
theorem AcQ.below (h : AcQ P W s) (b : Below W.heap.size W W') : AcQ P W' s := ⟨h.len, h.g.below b, h.n8, h.pa, h.pf⟩
theorem AcQ.mono (h : AcQ P W s) (hP : ∀ b, P b -> P' b) : AcQ P' W s := ⟨h.len, h.g, h.n8, fun b o e => hP b (h.pa b o e), fun i hi => ⟨fun b o e => hP b ((h.pf i hi).1 b o e), fun b o e => hP b ((h.pf i hi).2 b o e)⟩⟩
theorem AcQ.lg (h : AcQ P W s) : LG W s := ⟨h.len, h.g, by have := h.n8; omega⟩
end
theorem AcP.q {P : Nat -> Prop} (h : AcP P W s) : AcQ P W s := ⟨h.len, h.g, by have := h.six; omega, h.pa, h.pf⟩
theorem JL.actq {wL : World} {q : Int} {ls : List LV} (j : JL wL R a n cap bs q (.slice ad N c) ls W) (hl : ls.length = N) (ho : N <= 8) : AcQ (fun b => wL.heap.size <= b /\ b < W.heap.size) W ⟨ad, N, c, ls⟩ := by
 refine ⟨hl, j.g hl, ho, fun b o e => ?_, fun i hi => ⟨fun b o e => ⟨(j.na i hi b o e).1, (j.na i hi b o e).2.1⟩, fun b o e => ⟨(j.nc i hi b o e).1, (j.nc i hi b o e).2.1⟩⟩⟩;have e' : ad = some ⟨b, o, none⟩ := e;subst e'
 exact j.o.lt b rfl
structure JBs (w : World) (R : Nat) (a : Option Addr) (n cap : Nat) (bs : List Int) (q : Int) (v : Value) (ss : List L2V) (W : World) : Prop where
 t : Touch (fun x => x = R) w W
 r : Rd W R a n cap bs q
 o : W.ownsRow w.heap.size 57 1 v ss.length (ss.map L2V.v)
 ac : ∀ i, i < ss.length -> AcQ (fun b => w.heap.size <= b /\ b < W.heap.size /\ v.ownBlock ≠ some b) W (ss[i]?.getD noL)
 lR : R < w.heap.size
 lb : 0 < n -> ∀ b o, a = some ⟨b, o, none⟩ -> b < w.heap.size
section
variable {w W W' : World} {R : Nat} {a : Option Addr} {n cap : Nat} {bs : List Int} {q : Int} {v : Value} {ss : List L2V}
theorem JBs.below (j : JBs w R a n cap bs q v ss W) (b : Below W.heap.size W W') : JBs w R a n cap bs q v ss W' :=
 ⟨j.t.trans (Touch.of b), j.r.below b, own_belowL j.o b, fun i hi => ((j.ac i hi).below b).mono (fun x h => ⟨h.1, Nat.lt_of_lt_of_le h.2.1 b.size, h.2.2⟩), j.lR, j.lb⟩
theorem JBs.pick {q' : Int} (j : JBs w R a n cap bs q v ss W) (t : Touch (fun x => x = R) W W') (r : Rd W' R a n cap bs q') : JBs w R a n cap bs q' v ss W' := by
 have lR := j.lR
 exact ⟨j.t.trans t, r, ownsRow_touch j.o t (fun k h => by omega), fun i hi => ((j.ac i hi).touch t (fun b h => by omega)).mono (fun x h => ⟨h.1, Nat.lt_of_lt_of_le h.2.1 t.size, h.2.2⟩), j.lR, j.lb⟩
theorem JBs.app {H : Nat} (j : JBs w R a n cap bs q v ss W) (hk : ss.length = k) (hs : AcQ (fun b => w.heap.size <= b /\ b < H /\ v.ownBlock ≠ some b) W s) (hH : H <= W.heap.size) (hsz : ∀ i, i < ss.length -> AcQ (fun b => b < H) W (ss[i]?.getD noL))
  (hown : W'.ownsRow w.heap.size 57 1 (.slice (some ⟨g, 0, none⟩) (k + 1) c) (k + 1) (ss.map L2V.v ++ [s.v])) (hg : W.grownBy W' v.ownBlock) (hat : v.ownBlock = some g \/ H <= g) : JBs w R a n cap bs q (.slice (some ⟨g, 0, none⟩) (k + 1) c) (ss ++ [s]) W' := by
 have hr : ∀ x, v.ownBlock = some x -> w.heap.size <= x := fun x hx => (j.o.lt x hx).1;have lR := j.lR;have T : Touch (fun x => v.ownBlock = some x) W W' := ⟨hg.os, hg.tape, hg.output, hg.size, fun x hx hs => hg.block x hx (fun e => hs e.symm)⟩
 have hn : ∀ b, v.ownBlock ≠ some b -> b < H -> (Value.slice (some ⟨g, 0, none⟩) (k + 1) c).ownBlock ≠ some b := fun b h1 h2 e => by
  simp only [Value.ownBlock, qA] at e
  rcases hat with h | h
  ·rw [h] at h1; exact h1 (by rw [e])
  omega
 have hs' := hg.size;refine ⟨j.t.grown hg hr, j.r.touch T (fun e => by have := hr _ e; omega) (fun h0 b o hab e => by have := j.lb h0 b o hab; have := hr _ e; omega), ?_, fun i hi => ?_, j.lR, j.lb⟩
 ·rw [qE, hk, List.map_append];simpa using hown
 by_cases h : i < ss.length
 ·rw [List.getElem?_append_left h];have h1 := (j.ac i h).touch T (fun b hb => hb.2.2);have h2 := hsz i h
  exact ⟨h1.len, h1.g, h1.n8, fun b o e => ⟨(h1.pa b o e).1, by have := h2.pa b o e; omega, hn b (h1.pa b o e).2.2 (h2.pa b o e)⟩, fun m hm => ⟨fun b o e => ⟨((h1.pf m hm).1 b o e).1, by have := (h2.pf m hm).1 b o e; omega, hn b ((h1.pf m hm).1 b o e).2.2 ((h2.pf m hm).1 b o e)⟩, fun b o e => ⟨((h1.pf m hm).2 b o e).1, by have := (h2.pf m hm).2 b o e; omega, hn b ((h1.pf m hm).2 b o e).2.2 ((h2.pf m hm).2 b o e)⟩⟩⟩
 have : i = ss.length := by rw [qE] at hi; simp at hi; omega
 subst this;have e : (ss ++ [s])[ss.length]?.getD noL = s := by simp
 rw [e]
 exact (hs.touch T (fun b hb => hb.2.2)).mono (fun b hb => ⟨hb.1, by omega, hn b hb.2.2 hb.2.1⟩)
end
theorem JAs.q {q : Int} {v : Value} (j : JAs w R a n cap bs q v ss W) : JBs w R a n cap bs q v ss W := ⟨j.t, j.r, j.o, fun i hi => (j.ac i hi).q, j.lR, j.lb⟩
theorem getL_set {i : Nat} (hk : 0 < ss.length) : (ss.set 0 s)[i]?.getD noL = if i = 0 then s else ss[i]?.getD noL := by
 by_cases h : i = 0
 ·subst h; rw [List.getElem?_set_self hk]; rfl
 rw [List.getElem?_set_ne (fun e => h e.symm), if_neg h]
theorem JBs.set0 {q : Int} (j : JBs w R a n cap bs q (.slice (some ⟨g, 0, none⟩) N c) ss W) (hN : ss.length = N) (h0 : 0 < ss.length) (hs : AcQ (fun b => w.heap.size <= b /\ b < W.heap.size /\ g ≠ b) W s) : JBs w R a n cap bs q (.slice (some ⟨g, 0, none⟩) N c) (ss.set 0 s) (W.setCell ⟨g, 0, none⟩ s.v) := by
 have hg := j.o.lt g rfl;have lR := j.lR;have T : Touch (fun x => x = g) W (W.setCell ⟨g, 0, none⟩ s.v) := Touch.setCell (S := fun x => x = g) (Touch.refl _ _) rfl _;have o := j.o;rw [hN] at o;have hsz : (W.setCell ⟨g, 0, none⟩ s.v).heap.size = W.heap.size := size_setCell _ _ _;refine ⟨j.t.setNewF hg.1 _ _, j.r.touch T (by omega) (fun h0 b o e h => by have := j.lb h0 b o e; omega), ?_, fun i hi => ?_, j.lR, j.lb⟩
 ·rw [List.length_set, hN, List.map_set]
  exact (World.ownsRow.stored o 0 s.v).1
 rw [List.length_set] at hi;rw [getL_set h0]
 by_cases h : i = 0
 ·rw [if_pos h]
  exact (hs.touch T (fun b hb e => hb.2.2 e.symm)).mono (fun b hb => ⟨hb.1, by omega, fun e => hb.2.2 (by simpa [Value.ownBlock] using e)⟩)
 rw [if_neg h]
 exact ((j.ac i hi).touch T (fun b hb e => hb.2.2 (by rw [e]; rfl))).mono (fun b hb => ⟨hb.1, by omega, hb.2.2⟩)
theorem JBs.some {q : Int} (j : JBs w R a n cap bs q (.slice ad N c) ss W) (h0 : 0 < ss.length) : ∃ g, ad = some ⟨g, 0, none⟩ := by
 rcases j.o.2 with ⟨_, h⟩ | ⟨g, cap', cur, hv, _⟩
 ·omega
 simp only [Value.slice.injEq] at hv
 exact ⟨g, hv.1⟩
theorem anyacts_f (R : Nat) (a : Option Addr) (n cap : Nat) (bs : List Int) (p M : Int) {w : World} (rd : Rd w R a n cap bs p) (hp : 0 <= p) (hp1 : p <= 5000000) (hM : 1 <= M) (hM1 : M <= 1000) (ha : 0 < n -> ∀ b o, a = some ⟨b, o, none⟩ -> b < w.heap.size) :
  Calls Tryz.prog 84 #[.pointer (some ⟨R, 0, none⟩), .int .i64 M] w fun e w' => ∃ ad N c ss q, e = .returned (.slice ad N c) /\ JBs w R a n cap bs q (.slice ad N c) ss w' /\ ss.length = N /\ N <= 5 /\ p <= q /\ q <= p + 500 := by
 have hRl := rd.c.lt;obtain ⟨i0, hi, hz0, hz1, hz2⟩ := info_parts Tryz.infoLns
 go_enter Tryz.func84, Tryz.ntmps84
 go_wp2_with fail
 refine (acts_f R a n cap bs p rd hp (by omega) ha).mono ?_;rintro e w1 ⟨ad, N, c, ss, q, rfl, j', hN, hN1, hN4, q0, q1⟩;have j := j'.q;have HN : Hid (ss.length = N) := hN;clear hN rd j';obtain ⟨g, rfl⟩ := j.some (by rw [HN.out]; omega)
 go_wp2_with fail
 refine (pick_any R a n cap bs (q) M j.r).mono ?_;rintro e w2 ⟨ru, hu0, hu1, rfl, t5, R5⟩;obtain ⟨u, rfl⟩ := Int.eq_ofNat_of_zero_le hu0;replace j := j.pick t5 R5;clear t5 R5 hu0
 by_cases hu : 0 < u
 ·have hu' : (0 : Int) < (u : Int) := by omega
  go_wp2
  go_ret
  exact ⟨_, N, c, ss, _, rfl, j, HN.out, by omega, by omega, by omega⟩
 have hu' : ¬ (0 : Int) < (u : Int) := by omega
 go_wp2_with fail
 refine (pick_any R a n cap bs (q + 1) 3 j.r).mono ?_;rintro e w3 ⟨rs, hs0, hs1, rfl, t5, R5⟩;obtain ⟨s, rfl⟩ := Int.eq_ofNat_of_zero_le hs0;replace j := j.pick t5 R5;clear t5 R5 hs0
 rcases (show s = 0 \/ s = 1 \/ s = 2 from by omega) with rfl | rfl | rfl
 ·have hgW := (j.o.lt g rfl).2;have hlo := j.t.size;have hN' : (0 : Int) < (N : Int) := by omega
  go_wp2_with fail
  refine (any_f R a n cap bs (q + 1 + 1) 1 j.r (by omega) (by omega) (by omega) (by omega) j.r.ha).mono ?_;rintro e w4 ⟨ad4, N4, c4, ls4, q4, rfl, jl, hl4, hn8, y0, y1⟩;have sa := jl.actq hl4 hn8;replace j := j.pick jl.t jl.r;clear jl;have o := j.o;rw [HN.out] at o;have cc := o.cellAt 0 (by omega);rw [List.getElem?_map, qD (by rw [HN.out]; omega)] at cc;have ff : w4.frozen? ⟨g, 0, none⟩ = false := o.frozenAt _;obtain ⟨s0, hs0⟩ : ∃ s0 : L2V, s0 = ss[0]'(by rw [HN.out]; omega) := ⟨_, rfl⟩
  rw [<- hs0] at cc;have cc' : w4.cell? ⟨g, 0, none⟩ = some (.slice s0.a s0.n s0.cap) := cc;clear cc o hs0;have j9 := j.set0 (s := ⟨ad4, N4, c4, ls4⟩) HN.out (by rw [HN.out]; omega) (sa.mono (fun b hb => ⟨by omega, hb.2, by omega⟩));clear j sa
  go_wp2
  go_ret
  exact ⟨_, N, c, _, _, rfl, j9, by rw [List.length_set]; exact HN.out, by omega, by omega, by omega⟩
 ·have hlo := j.t.size;have al := (Below.refl w3.heap.size w3).alloc (qH _) (.cells #[] 57);have o0 := World.ownsRow_lit (base := w.heap.size) (e := 57) (size := 1) w3 #[] 0 hlo (by unfold maxLen; omega) rfl;have j9 : JBs w R a n cap bs (q + 1 + 1) (.slice (some ⟨w3.heap.size, 0, none⟩) 0 0) [] (w3.alloc (.cells #[] 57)) := ⟨j.t.trans (Touch.of al), j.r.below al, o0, fun i hi => by simp at hi, j.lR, j.lb⟩
  clear al o0 j
  go_wp2
  go_ret
  exact ⟨_, 0, 0, _, _, rfl, j9, rfl, by omega, by omega, by omega⟩
 go_wp2_with fail
 go_loopw [5] (fun v wr => ∃ (g' N' c' : Nat) (ss' : List L2V) (q' : Int), v = .slice (some ⟨g', 0, none⟩) N' c' /\ N <= N' /\ N' <= 5 /\ ss'.length = N' /\ q' = q + 1 + 1 /\ JBs w R a n cap bs q' v ss' wr) (fun v _ => 8 - (lenOf v))
 case atStart => exact ⟨g, N, c, ss, _, rfl, by omega, by omega, HN.out, rfl, j⟩
 case round =>
  clear j;obtain ⟨g', N', c', ss', q', rfl, hNN, hN7, hL, hq', j⟩ := hrel;have HL : Hid (ss'.length = N') := hL;clear hL
  by_cases h7 : N' <= 4
  ·have h7' : (N' : Int) <= 4 := by omega
   have hkN2 : (0 : Int) < (N' : Int) := by omega
   have hkl : 0 < ss'.length := by rw [HL.out]; omega
   have o := j.o;rw [HL.out] at o;have cc := o.cellAt 0 (by omega);rw [List.getElem?_map, qD hkl] at cc;obtain ⟨s0, hs0⟩ : ∃ s0 : L2V, s0 = ss'[0]?.getD noL := ⟨_, rfl⟩
   have es : ss'[0] = s0 := by rw [hs0, qD hkl]; rfl
   rw [es] at cc;have cc' : wr.cell? ⟨g', 0, none⟩ = some (.slice s0.a s0.n s0.cap) := cc;clear cc o es;have hsa := j.ac 0 hkl;rw [<- hs0] at hsa;clear hs0;have SZ : ∀ i, i < ss'.length -> AcQ (fun b => b < wr.heap.size) (wr.alloc (.cells #[.slice s0.a s0.n s0.cap] 57)) (ss'[i]?.getD noL) := fun i hi => ((j.ac i hi).mono (fun b hb => hb.2.1)).below ((Below.refl wr.heap.size wr).alloc (qH _) _);have al := (Below.refl wr.heap.size wr).alloc (qH _) (.cells #[.slice s0.a s0.n s0.cap] 57);have ja := j.below al;replace hsa := hsa.below al;have hszA := ja.t.size;clear al j
   go_wp2_with (at_builtin; refine wpList_append_lies _ rfl (.tmp 18) (.tmp 22) 23 rfl w.heap.size 57 i0 _ 1 24 Tryz.underlying23 hi hz0 hz1 hz2 rfl (by omega) (.slice (some ⟨g', 0, none⟩) N' c') N' (ss'.map L2V.v) (by rfl) (by have h := ja.o; rw [HL.out] at h; exact h) ⟨wr.heap.size, 0, none⟩ 1 1 [.slice s0.a s0.n s0.cap] (by rfl) (by rfl) (World.news_of_block (cs := #[.slice s0.a s0.n s0.cap]) (t := 57) (fr := (0, 0)) (heap_alloc_new wr _)) (by simp [Value.oneCell']) (by omega) (by unfold maxLen; omega) (by omega) hszA (wr.heap.size + 1) (by rw [qC]) ?_)
   intro g9 cp9 w9 hown hgrow hat9 _;have jn := ja.app (s := s0) (H := wr.heap.size) HL.out hsa (by rw [qC]; omega) SZ hown hgrow (by rcases hat9 with h | h; exact .inl h; exact .inr (by omega));clear hown hgrow ja hsa SZ cc'
   go_wp2
   go_roundw
   case rel => exact ⟨g9, N' + 1, cp9, ss' ++ [s0], _, rfl, by omega, by omega, by rw [qE, HL.out]; rfl, hq', jn⟩
   case measure => simp [lenOf]; omega
  have h7' : ¬ (N' : Int) <= 4 := by omega
  go_wp2
  go_ret
  exact ⟨_, N', c', rfl, by first | exact ⟨ss', ⟨q', j, by first | exact ⟨HL.out, by omega, by omega, by omega⟩ | omega⟩⟩ | (refine ⟨ss', ?_⟩; simp [HL.out]; exact ⟨q', j, by omega⟩) | (refine ⟨ss', ⟨q', j, ?_⟩, HL.out, ?_⟩ <;> omega)⟩
def L2V.ok (s : L2V) : Bool := actB s.n s.x
def catB (N : Nat) (ss : List L2V) : Bool := inB N 1 4 && ss.all L2V.ok
theorem allC_take_succ {ls : List L2V} (h : k < ls.length) (h1 : (ls.take k).all L2V.ok = true) (h2 : (ls[k]?.getD noL).ok = true) : (ls.take (k + 1)).all L2V.ok = true := by
 rw [List.take_succ_eq_append_getElem h, List.all_append, h1];rw [qD h] at h2;simpa using h2
theorem allC_no {ls : List L2V} (h : k < ls.length) (h2 : (ls[k]?.getD noL).ok = false) : ls.all L2V.ok = false := by
 rw [List.all_eq_false];rw [qD h] at h2
 exact ⟨ls[k], List.getElem_mem h, by simpa using h2⟩
theorem scat_any (ss : List L2V) {w : World} (hN : ss.length = N) (hF : LSG w ad ss) (hN1 : N <= 1048576) :
  Calls Tryz.prog 48 #[.slice ad N cap] w fun e w' => e = .returned (.bool (catB N ss)) /\ Below w.heap.size w w' := by
 have HN : Hid (ss.length = N) := hN;clear hN
 cases hib : inB N 1 4
 ·go_enter Tryz.func48, Tryz.ntmps48
  go_wp2_with fail
  refine (in_any).mono ?_;rintro e w1 ⟨rfl, rfl⟩;rw [hib]
  go_wp2
  go_ret
  exact ⟨ret_bool (by rw [catB, hib]; rfl), Below.refl _ _⟩
 go_enter Tryz.func48, Tryz.ntmps48
 go_wp2_with fail
 refine (in_any).mono ?_;rintro e w1 ⟨rfl, hw1⟩;rw [hib, hw1];clear hw1
 go_wp2_with fail
 have HCB : Hid (catB N ss = ss.all L2V.ok) := by show catB N ss = _; rw [catB, hib]; rfl
 go_loopw [3] (fun  i wr => ∃ k : Nat, k <= N /\ i = .int .i64 k /\ Below w.heap.size w wr /\ (ss.take k).all L2V.ok = true) (fun i _ => N - (intOf i).toNat)
 case atStart => exact ⟨0, qI _, rfl, Below.refl _ _, by simp⟩
 case round =>
  obtain ⟨k, hk, rfl, hb, hall⟩ := hrel;have HA : Hid ((ss.take k).all L2V.ok = true) := hall;clear hall
  by_cases hlt : k < N
  ·obtain ⟨b, off, rfl, hc, hr⟩ := (hF.below hb) k (by rw [HN.out]; exact hlt);generalize HG : ss[k]?.getD noL = g at *;have HG' : Hid (ss[k]?.getD noL = g) := HG;clear HG hF;obtain ⟨ga, gn, gcap, gx⟩ := g;have hc' : wr.cell? ⟨b, off + k, none⟩ = some (.slice ga gn gcap) := hc;clear hc
   cases hf : actB gn gx
   ·go_wp2_with fail
    refine (sact_any _ _ gx hr.1 hr.2.1 hr.2.2).mono ?_;rintro e w1 ⟨rfl, b1⟩;rw [hf]
    go_wp2
    go_ret
    exact ⟨ret_bool (by rw [HCB.out, allC_no (k := k) (by rw [HN.out]; exact hlt) (by rw [HG'.out]; exact hf)]), btr hb b1⟩
   go_wp2_with fail
   refine (sact_any _ _ gx hr.1 hr.2.1 hr.2.2).mono ?_;rintro e w1 ⟨rfl, b1⟩;rw [hf]
   go_wp2
   go_roundw
   case rel => exact ⟨k + 1, by omega, by go_num, btr hb b1, allC_take_succ (by rw [HN.out]; exact hlt) HA.out (by rw [HG'.out]; exact hf)⟩
   case measure => simp [intOf]; omega
  go_wp2
  go_ret
  exact ⟨ret_bool (by rw [HCB.out]; have := HA.out; rw [List.take_of_length_le (by rw [HN.out]; omega)] at this; exact this.symm), hb⟩
theorem icat_any (ss : List L2V) {w : World} (hN : ss.length = N) (hF : LSG w ad ss) (hN1 : N <= 1048576) :
  Calls Tryz.prog 86 #[.slice ad N cap] w fun e w' => e = .returned (.bool (catB N ss)) /\ Below w.heap.size w w' := by
 have HN : Hid (ss.length = N) := hN;clear hN
 by_cases h1 : N < 1
 ·have hib : inB N 1 4 = false := inB_not.2 (by omega)
  go_enter Tryz.func86, Tryz.ntmps86
  go_wp2
  go_ret
  exact ⟨ret_bool (by rw [catB, hib]; rfl), Below.refl _ _⟩
 by_cases h4 : 4 < N
 ·have hib : inB N 1 4 = false := inB_not.2 (by omega)
  go_enter Tryz.func86, Tryz.ntmps86
  go_wp2
  go_ret
  exact ⟨ret_bool (by rw [catB, hib]; rfl), Below.refl _ _⟩
 have hib : inB N 1 4 = true := inB_iff.2 (by omega)
 go_enter Tryz.func86, Tryz.ntmps86
 go_wp2_with fail
 have HCB : Hid (catB N ss = ss.all L2V.ok) := by show catB N ss = _; rw [catB, hib]; rfl
 go_loopw [4, 15] (fun _ i wr => ∃ k : Nat, k <= N /\ i = .int .i64 k /\ Below w.heap.size w wr /\ (ss.take k).all L2V.ok = true) (fun _ i _ => N - (intOf i).toNat)
 case atStart => exact ⟨0, qI _, rfl, Below.refl _ _, by simp⟩
 case round =>
  obtain ⟨k, hk, rfl, hb, hall⟩ := hrel;have HA : Hid ((ss.take k).all L2V.ok = true) := hall;clear hall
  by_cases hlt : k < N
  ·obtain ⟨b, off, rfl, hc, hr⟩ := (hF.below hb) k (by rw [HN.out]; exact hlt);generalize HG : ss[k]?.getD noL = g at *;have HG' : Hid (ss[k]?.getD noL = g) := HG;clear HG hF;obtain ⟨ga, gn, gcap, gx⟩ := g;have hc' : wr.cell? ⟨b, off + k, none⟩ = some (.slice ga gn gcap) := hc;clear hc
   cases hf : actB gn gx
   ·go_wp2_with fail
    refine (iact_any gx hr.1 hr.2.1 hr.2.2).mono ?_;rintro e w1 ⟨rfl, b1⟩;rw [hf]
    go_wp2
    go_ret
    exact ⟨ret_bool (by rw [HCB.out, allC_no (k := k) (by rw [HN.out]; exact hlt) (by rw [HG'.out]; exact hf)]), btr hb b1⟩
   go_wp2_with fail
   refine (iact_any gx hr.1 hr.2.1 hr.2.2).mono ?_;rintro e w1 ⟨rfl, b1⟩;rw [hf]
   go_wp2
   go_roundw
   case rel => exact ⟨k + 1, by omega, by go_num, btr hb b1, allC_take_succ (by rw [HN.out]; exact hlt) HA.out (by rw [HG'.out]; exact hf)⟩
   case measure => simp [intOf]; omega
  go_wp2
  go_ret
  exact ⟨ret_bool (by rw [HCB.out]; have := HA.out; rw [List.take_of_length_le (by rw [HN.out]; omega)] at this; exact this.symm), hb⟩
abbrev treV (a : Option Addr) (n cap : Nat) (c : Option Addr) (m cap' : Nat) : Value := .agg #[.slice a n cap, .slice c m cap']
structure IV where
 a : Option Addr
 n : Nat
 cap : Nat
 x : List Int
def noI : IV := ⟨none, 0, 0, []⟩
def IV.v (s : IV) : Value := .slice s.a s.n s.cap
def IG (w : World) (s : IV) : Prop := Ints w s.a s.n s.x /\ s.n <= 1048576
def IS (s : IV) : Prop := s.n <= 1048576
def sameI (s t : IV) : Prop := s.x = t.x
theorem IG.below {w' : World} {s : IV} (h : IG w s) (hb : Below w.heap.size w w') : IG w' s := ⟨h.1.below hb, h.2⟩
def trtB (n m : Nat) (C D : List Int) : Bool := okN 3 10000 n C && (inB m 1 3 && betB 0 50 D)
theorem strt_any {c : Option Addr} {cap' : Nat} (C D : List Int) {w : World} (hC : Ints w a n C) (hD : Ints w c m D) (hn : n <= 1048576) (hm : m <= 1048576) :
  Calls Tryz.prog 50 #[treV a n cap c m cap'] w fun e w' => e = .returned (.bool (trtB n m C D)) /\ Below w.heap.size w w' := by
 have HD : Hid (D.length = m) := hD.1
 cases h1 : okN 3 10000 n C
 ·go_enter Tryz.func50, Tryz.ntmps50
  go_wp2_with fail
  refine (sval_any C (hC.alloc _) hn).mono ?_;rintro e w1 ⟨rfl, rfl⟩
  go_wp2
  go_ret
  exact ⟨ret_bool (by simp [trtB, h1]), bal⟩
 cases h2 : inB m 1 3
 ·go_enter Tryz.func50, Tryz.ntmps50
  go_wp2_with fail
  refine (sval_any C (hC.alloc _) hn).mono ?_;rintro e w1 ⟨rfl, rfl⟩
  go_wp2_with fail
  refine (in_any).mono ?_;rintro e w1 ⟨rfl, rfl⟩
  go_wp2
  go_ret
  exact ⟨ret_bool (by simp [trtB, h2]), bal⟩
 go_enter Tryz.func50, Tryz.ntmps50
 go_wp2_with fail
 refine (sval_any C (hC.alloc _) hn).mono ?_;rintro e w1 ⟨rfl, rfl⟩
 go_wp2_with fail
 refine (in_any).mono ?_;rintro e w1 ⟨rfl, rfl⟩
 go_wp2_with fail
 go_loop [3] (fun i => ∃ k : Nat, k <= m /\ i = .int .i64 k /\ betB 0 50 (D.take k) = true) (fun i => m - (intOf i).toNat)
 case atStart => exact ⟨0, qI _, rfl, rfl⟩
 case round =>
  obtain ⟨k, hk, rfl, hall⟩ := hrel;have HA : Hid (betB 0 50 (D.take k) = true) := hall;clear hall
  by_cases hlt : k < m
  ·obtain ⟨b, off, rfl, hcell⟩ := (hD.alloc (.cells #[.slice a n cap, .slice c m cap'] 92 (0, 0))).pos (by omega);have hck := hcell k hlt;clear hcell hC hD
   cases hin : inB (D[k]?.getD 0) 0 50
   ·go_wp2_with fail
    refine (in_any).mono ?_;rintro e w1 ⟨rfl, rfl⟩
    go_wp2
    go_ret
    exact ⟨ret_bool (by rw [trtB, betB_false (by rw [HD.out]; exact hlt) hin]; simp), bal⟩
   go_wp2_with fail
   refine (in_any).mono ?_;rintro e w1 ⟨rfl, rfl⟩
   go_wp2
   go_round
   case rel => exact ⟨k + 1, by omega, by go_num, betB_step (by rw [HD.out]; exact hlt) HA.out hin⟩
   case measure => simp [intOf]; omega
  go_wp2
  go_ret
  exact ⟨ret_bool (by rw [trtB, h1, h2, betB_end (by rw [HD.out]; omega) HA.out]; rfl), bal⟩
theorem itrt_any {c : Option Addr} {cap' : Nat} (C D : List Int) {w : World} (hC : Ints w a n C) (hD : Ints w c m D) (hn : n <= 1048576) (hm : m <= 1048576) :
  Calls Tryz.prog 87 #[treV a n cap c m cap'] w fun e w' => e = .returned (.bool (trtB n m C D)) /\ Below w.heap.size w w' := by
 cases h1 : okN 3 10000 n C
 ·go_enter Tryz.func87, Tryz.ntmps87
  go_wp2_with fail
  refine (ival_any C (hC.alloc _) hn).mono ?_;rintro e w1 ⟨rfl, rfl⟩
  go_wp2
  go_ret
  exact ⟨ret_bool (by simp [trtB, h1]), bal⟩
 by_cases h2 : 1 <= m
 ·by_cases h3 : m <= 3
  ·have h4 : inB m 1 3 = true := inB_iff.2 ⟨by omega, by omega⟩;have H4 : Hid _ := h4;clear h4
   go_enter Tryz.func87, Tryz.ntmps87
   go_wp2_with fail
   refine (ival_any C (hC.alloc _) hn).mono ?_;rintro e w1 ⟨rfl, rfl⟩
   go_wp2_with fail
   refine (between_any D _ _ (hD.alloc _) hm).mono ?_;rintro e w1 ⟨rfl, rfl⟩
   go_wp2
   go_ret
   exact ⟨ret_bool (by rw [trtB, h1, H4.out]; rfl), bal⟩
  have h4 : inB m 1 3 = false := inB_not.2 (by omega);have H4 : Hid _ := h4;clear h4
  go_enter Tryz.func87, Tryz.ntmps87
  go_wp2_with fail
  refine (ival_any C (hC.alloc _) hn).mono ?_;rintro e w1 ⟨rfl, rfl⟩
  go_wp2
  go_ret
  exact ⟨ret_bool (by rw [trtB, H4.out]; simp), bal⟩
 have h4 : inB m 1 3 = false := inB_not.2 (by omega);have H4 : Hid _ := h4;clear h4
 go_enter Tryz.func87, Tryz.ntmps87
 go_wp2_with fail
 refine (ival_any C (hC.alloc _) hn).mono ?_;rintro e w1 ⟨rfl, rfl⟩
 go_wp2
 go_ret
 exact ⟨ret_bool (by rw [trtB, H4.out]; simp), bal⟩
def others (D : List Int) (s : Int) : Nat -> Int
 | 0 => 0
 | k + 1 => if (k : Int) = s then others D s k else wrap64 (others D s k + D[k]?.getD 0)
abbrev plV (cl : Int) (ad : Option Addr) (N cap : Nat) (ga : Option Addr) (gn gc : Nat) (sa : Option Addr) (sn sc : Nat) : Value := .agg #[.int .i64 cl, .slice ad N cap, .slice ga gn gc, .slice sa sn sc]
structure PlAt (w : World) (ad : Option Addr) (N : Nat) (ss : List L2V) (ga : Option Addr) (gn : Nat) (G : List Int) (sa : Option Addr) (sn : Nat) (S : List Int) : Prop where
 a : LSG w ad ss
 ha : ss.length = N
 za : N <= 1048576
 g : Ints w ga gn G
 zg : gn <= 1048576
 s : Ints w sa sn S
 zs : sn <= 1048576
theorem PlAt.below {w' : World} {ga : Option Addr} {gn : Nat} {G : List Int} {sa : Option Addr} {sn : Nat} {S : List Int} (h : PlAt w ad N ss ga gn G sa sn S) (b : Below w.heap.size w w') : PlAt w' ad N ss ga gn G sa sn S :=
 ⟨h.a.below b, h.ha, h.za, h.g.below b, h.zg, h.s.below b, h.zs⟩
theorem PlAt.alloc {ga : Option Addr} {gn : Nat} {G : List Int} {sa : Option Addr} {sn : Nat} {S : List Int} (h : PlAt w ad N ss ga gn G sa sn S) (o : Obj) : PlAt (w.alloc o) ad N ss ga gn G sa sn S :=
 h.below (bal)
theorem Cel.quadP {x y z u : Value} {t : TypeId} (h : Cel w B [x, y, z, u] t) : w.cell? ⟨B, 0, none⟩ = some x /\ w.cell? ⟨B, 1, none⟩ = some y /\ w.cell? ⟨B, 2, none⟩ = some z /\ w.cell? ⟨B, 3, none⟩ = some u := ⟨h.cell 0, h.cell 1, h.cell 2, h.cell 3⟩
structure BP (w : World) (B : Nat) (la : List Value) (ty : TypeId) (W : World) : Prop where
 p : Cel W B la ty
 b : Below w.heap.size w W
theorem BP.new (w : World) (la : List Value) (ty : TypeId) : BP w w.heap.size la ty (w.alloc (.cells la.toArray ty)) := ⟨Cel.new w la ty, bal⟩
theorem BP.below {W' : World} {la : List Value} {ty : TypeId} (h : BP w B la ty W) (b : Below W.heap.size W W') : BP w B la ty W' := ⟨h.p.below b, h.b.trans (b.mono h.b.size)⟩
theorem BP.alloc {la : List Value} {ty : TypeId} (h : BP w B la ty W) (o : Obj) : BP w B la ty (W.alloc o) := h.below (bal)
def plnB (cl : Int) (N : Nat) (ss : List L2V) (gn : Nat) (G : List Int) (sn : Nat) (S : List Int) : Bool := inB cl 1 4 && (catB N ss && (okN 3 1000 sn S && trtB sn gn S G))
end Go.Proofs.YtpmihhbgjimpmaaGreatDoor
