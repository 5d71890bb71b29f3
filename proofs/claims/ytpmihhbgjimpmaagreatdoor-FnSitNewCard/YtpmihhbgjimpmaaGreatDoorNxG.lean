/-
  Lemmas that the claim's last text rests on.
-/
import Derived.Test.YtpmihhbgjimpmaaGreatDoorNxF
namespace Go.Proofs.YtpmihhbgjimpmaaGreatDoor
open Go.RowKit Go.Deep Go.ChangeShapes Go.WideShapes Go.ChangeAt Go.Joins
open Option.some renaming injEq → qA
open Addr.mk renaming injEq → qB
open World renaming size_alloc → qC
open List renaming setIfInBounds_toArray → qD, set_cons_zero → qE, set_cons_succ → qF, getElem_cons_zero → qG, getElem_cons_succ → qH, getElem_toArray → qI, length_append → qJ, length_cons → qK, length_nil → qL
open Nat renaming le_refl → qM
set_option linter.unusedVariables false
set_option maxRecDepth 100000
set_option maxHeartbeats 25600000
variable {B k n : Nat} {a : Option Addr} {w : World}
theorem flatL_set : ∀ (ls : List LV) (k r : Nat) (l' : LV) (u : Value), k < ls.length -> r < 6 -> l'.cs = (ls[k]?.getD noLV).cs.set r u -> (ls.set k l').flatMap LV.cs = (ls.flatMap LV.cs).set (k * 6 + r) u := by
 intro ls
 induction ls with
 | nil => intro k r l' u hk; simp at hk
 | cons g gs ih =>
  intro k r l' u hk hr hc
  rcases k with _ | k
  ·simp only [List.getElem?_cons_zero, Option.getD_some] at hc;simp only [qE, List.flatMap_cons, Nat.zero_mul, Nat.zero_add, hc];rw [List.set_append_left _ _ (by simp [LV.cs]; omega)]
  simp only [List.getElem?_cons_succ] at hc;simp only [qF, List.flatMap_cons];rw [ih k r l' u (by simpa using hk) hr hc, List.set_append_right _ _ (by simp [LV.cs]; omega)];have e : (k + 1) * 6 + r - g.cs.length = k * 6 + r := by simp [LV.cs]; omega
  rw [e]
theorem two_lv {P : LV -> Prop} {l m : LV} (h0 : P l) (h1 : P m) : ∀ i, i < [l, m].length -> P ([l, m][i]?.getD noLV) := fun i hi => by
 rcases i with _ | _ | i
 ·exact h0
 ·exact h1
 simp only [qK, qL] at hi; omega
def lenOf : Value -> Nat
 | .slice _ n _ => n
 | _ => 0
theorem getD_set {ls : List LV} {i : Nat} {l' : LV} (hk : k < ls.length) : (ls.set k l')[i]?.getD noLV = if i = k then l' else ls[i]?.getD noLV := by
 by_cases h : i = k
 ·subst h; rw [if_pos rfl, List.getElem?_set_self hk]; rfl
 rw [if_neg h, List.getElem?_set_ne (fun e => h e.symm)]
section
variable {wL W W' : World} {R : Nat} {a : Option Addr} {n cap : Nat} {bs : List Int} {q : Int} {v : Value} {ls : List LV}
theorem JL.set {g N c r : Nat} {l' : LV} {u : Value} (j : JL wL R a n cap bs q (.slice (some ⟨g, 0, none⟩) N c) ls W) (hN : ls.length = N) (hk : k < ls.length) (hr : r < 6) (hc : l'.cs = (ls[k]?.getD noLV).cs.set r u) (h1 : u.oneCell' = true)
  (hat : l'.f.At W) (ha : ∀ b o, l'.f.a = some ⟨b, o, none⟩ -> wL.heap.size <= b /\ b < W.heap.size /\ g ≠ b) (hcc : ∀ b o, l'.f.c = some ⟨b, o, none⟩ -> wL.heap.size <= b /\ b < W.heap.size /\ g ≠ b) : JL wL R a n cap bs q (.slice (some ⟨g, 0, none⟩) N c) (ls.set k l') (W.setCell ⟨g, k * 6 + r, none⟩ u) := by
 have hg := j.o.lt g rfl;have lR := j.lR;have T : Touch (fun x => x = g) W (W.setCell ⟨g, k * 6 + r, none⟩ u) := Touch.setCell (S := fun x => x = g) (Touch.refl _ _) rfl _;have o := j.o;rw [hN] at o;have hs : (W.setCell ⟨g, k * 6 + r, none⟩ u).heap.size = W.heap.size := size_setCell _ _ _;have nb : ∀ i, i < ls.length -> ∀ b o, (ls[i]?.getD noLV).f.a = some ⟨b, o, none⟩ -> ¬ b = g := fun i hi b o e h => (j.na i hi b o e).2.2 (by rw [h]; rfl);have nb2 : ∀ i, i < ls.length -> ∀ b o, (ls[i]?.getD noLV).f.c = some ⟨b, o, none⟩ -> ¬ b = g := fun i hi b o e h => (j.nc i hi b o e).2.2 (by rw [h]; rfl);refine ⟨j.t.setNewF hg.1 _ _, j.r.touch T (by omega) (fun h0 b o e h => by have := j.lb h0 b o e; omega), ?_, fun i hi => ?_, fun i hi b o e => ?_, fun i hi b o e => ?_, j.lR, j.lb⟩
 ·rw [List.length_set, hN, flatL_set ls k r l' u hk hr hc]
  exact (World.ownsRow.stored o (k * 6 + r) u).1
 ·rw [List.length_set] at hi;rw [getD_set hk]
  by_cases h : i = k
  ·rw [if_pos h]; exact hat.off T (fun b o e h2 => (ha b o e).2.2 h2.symm) (fun b o e h2 => (hcc b o e).2.2 h2.symm)
  rw [if_neg h]; exact (j.at' i hi).off T (nb i hi) (nb2 i hi)
 ·rw [List.length_set] at hi;rw [getD_set hk] at e
  by_cases h : i = k
  ·rw [if_pos h] at e; have h3 := ha b o e; exact ⟨h3.1, by omega, fun e2 => h3.2.2 (by simpa [Value.ownBlock] using e2)⟩
  rw [if_neg h] at e; have h3 := j.na i hi b o e; exact ⟨h3.1, by omega, h3.2.2⟩
 rw [List.length_set] at hi;rw [getD_set hk] at e
 by_cases h : i = k
 ·rw [if_pos h] at e; have h3 := hcc b o e; exact ⟨h3.1, by omega, fun e2 => h3.2.2 (by simpa [Value.ownBlock] using e2)⟩
 rw [if_neg h] at e; have h3 := j.nc i hi b o e; exact ⟨h3.1, by omega, h3.2.2⟩
theorem JL.apps {ns : List LV} {g c m : Nat} {H : Nat} (j : JL wL R a n cap bs q v ls W) (hk : ls.length = k) (hm : ns.length = m) (hl : ∀ i, i < ns.length -> (ns[i]?.getD noLV).f.At W) (la : ∀ i, i < ns.length -> ∀ b o, (ns[i]?.getD noLV).f.a = some ⟨b, o, none⟩ -> wL.heap.size <= b /\ b < H /\ v.ownBlock ≠ some b) (lc : ∀ i, i < ns.length -> ∀ b o, (ns[i]?.getD noLV).f.c = some ⟨b, o, none⟩ -> wL.heap.size <= b /\ b < H /\ v.ownBlock ≠ some b) (hH : H <= W.heap.size) (hsz : ∀ i, i < ls.length -> (∀ b o, (ls[i]?.getD noLV).f.a = some ⟨b, o, none⟩ -> b < H) /\ (∀ b o, (ls[i]?.getD noLV).f.c = some ⟨b, o, none⟩ -> b < H))
  (hown : W'.ownsRow wL.heap.size 153 6 (.slice (some ⟨g, 0, none⟩) (k + m) c) (k + m) (ls.flatMap LV.cs ++ ns.flatMap LV.cs)) (hg : W.grownBy W' v.ownBlock) (hat : v.ownBlock = some g \/ H <= g) : JL wL R a n cap bs q (.slice (some ⟨g, 0, none⟩) (k + m) c) (ls ++ ns) W' := by
 have hr : ∀ x, v.ownBlock = some x -> wL.heap.size <= x := fun x hx => (j.o.lt x hx).1;have lR := j.lR;have T : Touch (fun x => v.ownBlock = some x) W W' := ⟨hg.os, hg.tape, hg.output, hg.size, fun x hx hs => hg.block x hx (fun e => hs e.symm)⟩
 have hn : ∀ b, v.ownBlock ≠ some b -> b < H -> (Value.slice (some ⟨g, 0, none⟩) (k + m) c).ownBlock ≠ some b := fun b h1 h2 e => by
  simp only [Value.ownBlock, qA] at e
  rcases hat with h | h
  ·rw [h] at h1; exact h1 (by rw [e])
  omega
 have key : ∀ i, i < (ls ++ ns).length -> (i < ls.length /\ (ls ++ ns)[i]?.getD noLV = ls[i]?.getD noLV) \/ (i - ls.length < ns.length /\ (ls ++ ns)[i]?.getD noLV = ns[i - ls.length]?.getD noLV) := fun i hi => by
  by_cases h : i < ls.length
  ·left; exact ⟨h, by rw [List.getElem?_append_left h]⟩
  right
  rw [qJ] at hi
  exact ⟨by omega, by rw [List.getElem?_append_right (by omega)]⟩
 have hs := hg.size;refine ⟨j.t.grown hg hr, j.r.touch T (fun e => by have := hr _ e; omega) (fun h0 b o hab e => by have := j.lb h0 b o hab; have := hr _ e; omega), ?_, fun i hi => ?_, fun i hi b o e => ?_, fun i hi b o e => ?_, j.lR, j.lb⟩
 ·rw [qJ, hk, hm, List.flatMap_append]
  exact hown
 ·rcases key i hi with ⟨h, e⟩ | ⟨h, e⟩
  ·rw [e]; exact (j.at' i h).off T (fun b o e h' => (j.na i h b o e).2.2 h') (fun b o e h' => (j.nc i h b o e).2.2 h')
  rw [e]; exact (hl _ h).off T (fun b o e h' => (la _ h b o e).2.2 h') (fun b o e h' => (lc _ h b o e).2.2 h')
 ·rcases key i hi with ⟨h, e'⟩ | ⟨h, e'⟩
  ·rw [e'] at e; have h3 := j.na i h b o e; exact ⟨h3.1, by omega, hn b h3.2.2 ((hsz i h).1 b o e)⟩
  rw [e'] at e; have h3 := la _ h b o e; exact ⟨h3.1, by omega, hn b h3.2.2 h3.2.1⟩
 rcases key i hi with ⟨h, e'⟩ | ⟨h, e'⟩
 ·rw [e'] at e; have h3 := j.nc i h b o e; exact ⟨h3.1, by omega, hn b h3.2.2 ((hsz i h).2 b o e)⟩
 rw [e'] at e; have h3 := lc _ h b o e; exact ⟨h3.1, by omega, hn b h3.2.2 h3.2.1⟩
end
theorem any_f (R : Nat) (a : Option Addr) (n cap : Nat) (bs : List Int) (p M : Int) {w : World} (rd : Rd w R a n cap bs p) (hp : 0 <= p) (hp1 : p <= 7000000) (hM : 1 <= M) (hM1 : M <= 1000) (ha : 0 < n -> ∀ b o, a = some ⟨b, o, none⟩ -> b < w.heap.size) :
  Calls Tryz.prog 126 #[.pointer (some ⟨R, 0, none⟩), .int .i64 M] w fun e w' => ∃ ad N c ls q, e = .returned (.slice ad N c) /\ JL w R a n cap bs q (.slice ad N c) ls w' /\ ls.length = N /\ N <= 8 /\ p <= q /\ q <= p + 120 := by
 have hRl := rd.c.lt;obtain ⟨i0, hi, hz0, hz1, hz2⟩ := info_parts Tryz.infoLn
 go_enter Tryz.func126, Tryz.ntmps126
 go_wp2_with fail
 refine (act_f R a n cap bs p rd hp (by omega) ha).mono ?_;rintro e w1 ⟨ad, N, c, ls, q, rfl, j, hN, hok, q0, q1⟩;have HN : Hid (ls.length = N) := hN;have hN6 : N <= 6 := by unfold actB at hok; simp only [Bool.and_eq_true, decide_eq_true_eq] at hok; omega
 clear hN hok rd
 by_cases h0 : N = 0
 ·subst h0
  go_wp2
  go_ret
  exact ⟨_, 0, _, ls, q, rfl, j, HN.out, by omega, by omega, by omega⟩
 have h0' : ((N : Int) == 0) = false := by simp; omega
 have hNp : 0 < N := by omega
 obtain ⟨g, rfl⟩ : ∃ g, ad = some ⟨g, 0, none⟩ := by
  rcases j.o.2 with ⟨_, h⟩ | ⟨g, cap', cur, hv, _⟩
  ·rw [HN.out] at h; omega
  simp only [Value.slice.injEq] at hv
  exact ⟨g, hv.1⟩
 go_wp2_with fail
 refine (pick_any R a n cap bs (q) M j.r).mono ?_;rintro e w2 ⟨ru, hu0, hu1, rfl, t5, R5⟩;obtain ⟨u, rfl⟩ := Int.eq_ofNat_of_zero_le hu0;replace j := j.pick t5 R5;clear t5 R5 hu0
 by_cases hu : 0 < u
 ·have hu' : (0 : Int) < (u : Int) := by omega
  go_wp2
  go_ret
  exact ⟨_, N, c, ls, _, rfl, j, HN.out, by omega, by omega, by omega⟩
 have hu' : ¬ (0 : Int) < (u : Int) := by omega
 go_wp2_with fail
 refine (pick_any R a n cap bs (q + 1) (N : Int) j.r).mono ?_;rintro e w4 ⟨rk, hk0, hk1, rfl, t5, R5⟩;obtain ⟨k, rfl⟩ := Int.eq_ofNat_of_zero_le hk0;replace j := j.pick t5 R5;clear t5 R5 hk0;have hkN : k < N := by omega
 have hkN' : (k : Int) < (N : Int) := by omega
 go_wp2_with fail
 refine (pick_any R a n cap bs (q + 1 + 1) 6 j.r).mono ?_;rintro e w5 ⟨rs, hs0, hs1, rfl, t5, R5⟩;obtain ⟨s, rfl⟩ := Int.eq_ofNat_of_zero_le hs0;replace j := j.pick t5 R5;clear t5 R5 hs0
 rcases (show s = 0 \/ s = 1 \/ s = 2 \/ s = 3 \/ s = 4 \/ s = 5 from by omega) with rfl | rfl | rfl | rfl | rfl | rfl
 ·have al := (Below.refl w5.heap.size w5).alloc (qM _) (.cells #[.int .i64 0, .int .i64 5, .int .i64 4, .int .i64 1] 3);have lb := Cel.new w5 [.int .i64 0, .int .i64 5, .int .i64 4, .int .i64 1] 3;have hsz := j.t.size;have nl : w5.heap.size ≠ R := by have := j.lR; omega
  replace j := j.below al;clear al
  go_wp2_with fail
  refine (pick_any R a n cap bs (q + 1 + 1 + 1) 4 j.r).mono ?_;rintro e w6 ⟨ri, hi0, hi1, rfl, t5, R5⟩;obtain ⟨i, rfl⟩ := Int.eq_ofNat_of_zero_le hi0;replace j := j.pick t5 R5;replace lb := lb.touch t5 nl;clear t5 R5 hi0;have hi' : (i : Int) < 4 := by omega
  have hc := lit_cell (xs := [0, 5, 4, 1]) lb (j := i) (by simp only [qK, qL]; omega);generalize ([0, 5, 4, 1] : List Int)[i]?.getD 0 = y at hc;clear lb;have o := j.o;rw [HN.out] at o;have cc := o.cellAt (k * 6 + 0) (by omega);rw [flatL_at ls k (by rw [HN.out]; exact hkN) 0 (by omega)] at cc;have cc' : w6.cell? ⟨g, k * 6 + 0, none⟩ = some (.int .i64 (ls[k]?.getD noLV).kind) := cc;have ff : w6.frozen? ⟨g, k * 6 + 0, none⟩ = false := o.frozenAt _;clear cc o;rw [Nat.add_zero] at cc' ff;obtain ⟨l, hl⟩ : ∃ l, l = ls[k]?.getD noLV := ⟨_, rfl⟩
  have j' := j.set (k := k) (r := 0) (l' := ⟨y, l.pot, l.skip, l.f⟩) (u := .int .i64 y) HN.out (by rw [HN.out]; exact hkN) (by omega) (by rw [<- hl]; rfl) rfl (by rw [hl]; exact j.at' k (by rw [HN.out]; exact hkN)) (fun b o e => by (have h := j.na k (by rw [HN.out]; exact hkN) b o (by rw [<- hl]; exact e); exact ⟨h.1, h.2.1, fun e2 => h.2.2 (by rw [e2]; rfl)⟩)) (fun b o e => by (have h := j.nc k (by rw [HN.out]; exact hkN) b o (by rw [<- hl]; exact e); exact ⟨h.1, h.2.1, fun e2 => h.2.2 (by rw [e2]; rfl)⟩));clear j hl;rw [Nat.add_zero] at j'
  go_wp2
  go_ret
  exact ⟨_, N, c, _, _, rfl, j', by rw [List.length_set]; exact HN.out, by omega, by omega, by omega⟩
 ·have al := (Below.refl w5.heap.size w5).alloc (qM _) (.cells #[.int .i64 (-1), .int .i64 3, .int .i64 2] 3);have lb := Cel.new w5 [.int .i64 (-1), .int .i64 3, .int .i64 2] 3;have hsz := j.t.size;have nl : w5.heap.size ≠ R := by have := j.lR; omega
  replace j := j.below al;clear al
  go_wp2_with fail
  refine (pick_any R a n cap bs (q + 1 + 1 + 1) 3 j.r).mono ?_;rintro e w6 ⟨ri, hi0, hi1, rfl, t5, R5⟩;obtain ⟨i, rfl⟩ := Int.eq_ofNat_of_zero_le hi0;replace j := j.pick t5 R5;replace lb := lb.touch t5 nl;clear t5 R5 hi0;have hi' : (i : Int) < 3 := by omega
  have hc := lit_cell (xs := [-1, 3, 2]) lb (j := i) (by simp only [qK, qL]; omega);generalize ([-1, 3, 2] : List Int)[i]?.getD 0 = y at hc;clear lb;have o := j.o;rw [HN.out] at o;have cc := o.cellAt (k * 6 + 1) (by omega);rw [flatL_at ls k (by rw [HN.out]; exact hkN) 1 (by omega)] at cc;have cc' : w6.cell? ⟨g, k * 6 + 1, none⟩ = some (.int .i64 (ls[k]?.getD noLV).pot) := cc;have ff : w6.frozen? ⟨g, k * 6 + 1, none⟩ = false := o.frozenAt _;clear cc o;obtain ⟨l, hl⟩ : ∃ l, l = ls[k]?.getD noLV := ⟨_, rfl⟩
  have j' := j.set (k := k) (r := 1) (l' := ⟨l.kind, y, l.skip, l.f⟩) (u := .int .i64 y) HN.out (by rw [HN.out]; exact hkN) (by omega) (by rw [<- hl]; rfl) rfl (by rw [hl]; exact j.at' k (by rw [HN.out]; exact hkN)) (fun b o e => by (have h := j.na k (by rw [HN.out]; exact hkN) b o (by rw [<- hl]; exact e); exact ⟨h.1, h.2.1, fun e2 => h.2.2 (by rw [e2]; rfl)⟩)) (fun b o e => by (have h := j.nc k (by rw [HN.out]; exact hkN) b o (by rw [<- hl]; exact e); exact ⟨h.1, h.2.1, fun e2 => h.2.2 (by rw [e2]; rfl)⟩));clear j hl
  go_wp2
  go_ret
  exact ⟨_, N, c, _, _, rfl, j', by rw [List.length_set]; exact HN.out, by omega, by omega, by omega⟩
 ·have al := (Below.refl w5.heap.size w5).alloc (qM _) (.cells #[.int .i64 0, .int .i64 (-1), .int .i64 7, .int .i64 6] 3);have lb := Cel.new w5 [.int .i64 0, .int .i64 (-1), .int .i64 7, .int .i64 6] 3;have hsz := j.t.size;have nl : w5.heap.size ≠ R := by have := j.lR; omega
  replace j := j.below al;clear al
  go_wp2_with fail
  refine (pick_any R a n cap bs (q + 1 + 1 + 1) 4 j.r).mono ?_;rintro e w6 ⟨ri, hi0, hi1, rfl, t5, R5⟩;obtain ⟨i, rfl⟩ := Int.eq_ofNat_of_zero_le hi0;replace j := j.pick t5 R5;replace lb := lb.touch t5 nl;clear t5 R5 hi0;have hi' : (i : Int) < 4 := by omega
  have hc := lit_cell (xs := [0, -1, 7, 6]) lb (j := i) (by simp only [qK, qL]; omega);generalize ([0, -1, 7, 6] : List Int)[i]?.getD 0 = y at hc;clear lb;have o := j.o;rw [HN.out] at o;have cc := o.cellAt (k * 6 + 2) (by omega);rw [flatL_at ls k (by rw [HN.out]; exact hkN) 2 (by omega)] at cc;have cc' : w6.cell? ⟨g, k * 6 + 2, none⟩ = some (.int .i64 (ls[k]?.getD noLV).skip) := cc;have ff : w6.frozen? ⟨g, k * 6 + 2, none⟩ = false := o.frozenAt _;clear cc o;obtain ⟨l, hl⟩ : ∃ l, l = ls[k]?.getD noLV := ⟨_, rfl⟩
  have j' := j.set (k := k) (r := 2) (l' := ⟨l.kind, l.pot, y, l.f⟩) (u := .int .i64 y) HN.out (by rw [HN.out]; exact hkN) (by omega) (by rw [<- hl]; rfl) rfl (by rw [hl]; exact j.at' k (by rw [HN.out]; exact hkN)) (fun b o e => by (have h := j.na k (by rw [HN.out]; exact hkN) b o (by rw [<- hl]; exact e); exact ⟨h.1, h.2.1, fun e2 => h.2.2 (by rw [e2]; rfl)⟩)) (fun b o e => by (have h := j.nc k (by rw [HN.out]; exact hkN) b o (by rw [<- hl]; exact e); exact ⟨h.1, h.2.1, fun e2 => h.2.2 (by rw [e2]; rfl)⟩));clear j hl
  go_wp2
  go_ret
  exact ⟨_, N, c, _, _, rfl, j', by rw [List.length_set]; exact HN.out, by omega, by omega, by omega⟩
 ·go_wp2_with fail
  refine (form_f R a n cap bs (q + 1 + 1 + 1) 2 j.r (by omega) (by omega) (by omega) (by omega) j.r.ha).mono ?_;rintro e w6 ⟨B1, nC, cC, B2, nD, cD, K, LC, LD, q6, rfl, fm⟩;have hsz5 := (j.o.lt g rfl).2;have hszL := j.t.size;replace j := j.pick fm.t fm.r;have y0 := fm.q0;have y1 := fm.q1;have z1 := fm.b1;have z2 := fm.b2;have GF := fm.fa K;have s1 := GF.C.blk fm.c1;have s2 := GF.D.blk fm.d1;clear fm;have o := j.o;rw [HN.out] at o;obtain ⟨l, hl⟩ : ∃ l, l = ls[k]?.getD noLV := ⟨_, rfl⟩
  have hkl : k < ls.length := by rw [HN.out]; exact hkN
  have d3 := o.cellAt (k * 6 + 3) (by omega);rw [flatL_at ls k hkl 3 (by omega), <- hl] at d3;have e3 : w6.cell? ⟨g, k * 6 + 3, none⟩ = some (.slice l.f.a l.f.n l.f.cap) := d3;have f3 : w6.frozen? ⟨g, k * 6 + 3, none⟩ = false := o.frozenAt _;have d4 := o.cellAt (k * 6 + 4) (by omega);rw [flatL_at ls k hkl 4 (by omega), <- hl] at d4;have e4 : w6.cell? ⟨g, k * 6 + 4, none⟩ = some (.slice l.f.c l.f.m l.f.cap') := d4;have f4 : w6.frozen? ⟨g, k * 6 + 4, none⟩ = false := o.frozenAt _;have d5 := o.cellAt (k * 6 + 5) (by omega);rw [flatL_at ls k hkl 5 (by omega), <- hl] at d5;have e5 : w6.cell? ⟨g, k * 6 + 5, none⟩ = some (.int .i64 l.f.K) := d5;have f5 : w6.frozen? ⟨g, k * 6 + 5, none⟩ = false := o.frozenAt _;clear d3 d4 d5 o;have hat := j.at' k hkl;rw [<- hl] at hat;have hna := j.na k hkl;have hnc := j.nc k hkl;rw [<- hl] at hna hnc;have fa1 : ∀ b o, (some ⟨B1, 0, none⟩ : Option Addr) = some ⟨b, o, none⟩ -> w.heap.size <= b /\ b < w6.heap.size /\ g ≠ b := fun b o e => by (simp only [qA, qB] at e; exact ⟨by omega, by omega, by omega⟩)
  have fa2 : ∀ b o, (some ⟨B2, 0, none⟩ : Option Addr) = some ⟨b, o, none⟩ -> w.heap.size <= b /\ b < w6.heap.size /\ g ≠ b := fun b o e => by (simp only [qA, qB] at e; exact ⟨by omega, by omega, by omega⟩)
  have fo2 : ∀ b o, l.f.c = some ⟨b, o, none⟩ -> w.heap.size <= b /\ b < w6.heap.size /\ g ≠ b := fun b o e => ⟨(hnc b o e).1, (hnc b o e).2.1, fun e2 => (hnc b o e).2.2 (by rw [e2]; rfl)⟩
  have j1 := j.set (k := k) (r := 3) (l' := ⟨l.kind, l.pot, l.skip, ⟨some ⟨B1, 0, none⟩, nC, cC, l.f.c, l.f.m, l.f.cap', l.f.K, LC, l.f.D⟩⟩) (u := .slice (some ⟨B1, 0, none⟩) nC cC) HN.out hkl (by omega) (by rw [<- hl]; rfl) rfl ⟨GF.C, hat.D, GF.hn, hat.hm⟩ fa1 fo2;have sz1 : (w6.setCell ⟨g, k * 6 + 3, none⟩ (.slice (some ⟨B1, 0, none⟩) nC cC)).heap.size = w6.heap.size := size_setCell _ _ _;have T1 : Touch (fun x => x = g) w6 (w6.setCell ⟨g, k * 6 + 3, none⟩ (.slice (some ⟨B1, 0, none⟩) nC cC)) := Touch.setCell (S := fun x => x = g) (Touch.refl _ _) rfl _;have GF1 := GF.off T1 (fun b o e h => (fa1 b o e).2.2 h.symm) (fun b o e h => (fa2 b o e).2.2 h.symm);have j2 := j1.set (k := k) (r := 4) (l' := ⟨l.kind, l.pot, l.skip, ⟨some ⟨B1, 0, none⟩, nC, cC, some ⟨B2, 0, none⟩, nD, cD, l.f.K, LC, LD⟩⟩) (u := .slice (some ⟨B2, 0, none⟩) nD cD) (by rw [List.length_set]; exact HN.out) (by rw [List.length_set]; exact hkl) (by omega) (by rw [getD_set hkl, if_pos rfl]; rfl) rfl ⟨GF1.C, GF1.D, GF1.hn, GF1.hm⟩ (by rw [sz1]; exact fa1) (by rw [sz1]; exact fa2);have sz2 : ((w6.setCell ⟨g, k * 6 + 3, none⟩ (.slice (some ⟨B1, 0, none⟩) nC cC)).setCell ⟨g, k * 6 + 4, none⟩ (.slice (some ⟨B2, 0, none⟩) nD cD)).heap.size = w6.heap.size := by rw [size_setCell]; exact sz1
  have T2 : Touch (fun x => x = g) w6 ((w6.setCell ⟨g, k * 6 + 3, none⟩ (.slice (some ⟨B1, 0, none⟩) nC cC)).setCell ⟨g, k * 6 + 4, none⟩ (.slice (some ⟨B2, 0, none⟩) nD cD)) := Touch.setCell (S := fun x => x = g) T1 rfl _;have GF2 := GF.off T2 (fun b o e h => (fa1 b o e).2.2 h.symm) (fun b o e h => (fa2 b o e).2.2 h.symm);have hk2 : k < (ls.set k ⟨l.kind, l.pot, l.skip, ⟨some ⟨B1, 0, none⟩, nC, cC, l.f.c, l.f.m, l.f.cap', l.f.K, LC, l.f.D⟩⟩).length := by rw [List.length_set]; exact hkl
  have j3 := j2.set (k := k) (r := 5) (l' := ⟨l.kind, l.pot, l.skip, ⟨some ⟨B1, 0, none⟩, nC, cC, some ⟨B2, 0, none⟩, nD, cD, K, LC, LD⟩⟩) (u := .int .i64 K) (by rw [List.length_set, List.length_set]; exact HN.out) (by rw [List.length_set]; exact hk2) (by omega) (by rw [getD_set hk2, if_pos rfl]; rfl) rfl ⟨GF2.C, GF2.D, GF2.hn, GF2.hm⟩ (by rw [sz2]; exact fa1) (by rw [sz2]; exact fa2);clear j j1 j2 GF GF1 GF2 T1 T2 hl hat hna hnc
  go_wp2
  go_ret
  exact ⟨_, N, c, _, _, rfl, j3, by rw [List.length_set, List.length_set, List.length_set]; exact HN.out, by omega, by omega, by omega⟩
 ·have HKN : Hid (k < N) := hkN
  go_wp2_with fail
  go_loopw [5] (fun v wr => ∃ (g' N' c' : Nat) (ls' : List LV) (q' : Int), v = .slice (some ⟨g', 0, none⟩) N' c' /\ N <= N' /\ N' <= 7 /\ ls'.length = N' /\ q' = q + 1 + 1 + 1 /\ JL w R a n cap bs q' v ls' wr) (fun v _ => 8 - (lenOf v))
  case atStart => exact ⟨g, N, c, ls, _, rfl, by omega, by omega, HN.out, rfl, j⟩
  case round =>
   clear j;obtain ⟨g', N', c', ls', q', rfl, hNN, hN7, hL, hq', j⟩ := hrel;have HL : Hid (ls'.length = N') := hL;clear hL
   by_cases h7 : N' <= 6
   ·have h7' : (N' : Int) <= 6 := by omega
    have hkN2 : (k : Int) < (N' : Int) := by omega
    have hkl : k < ls'.length := by rw [HL.out]; omega
    obtain ⟨b', o', e', hc, hat⟩ := j.g HL.out k hkl;simp only [qA, qB, and_true] at e';obtain ⟨rfl, rfl⟩ := e';obtain ⟨l, hl⟩ : ∃ l, l = ls'[k]?.getD noLV := ⟨_, rfl⟩
    rw [<- hl] at hc hat;have hna := j.na k hkl;have hnc := j.nc k hkl;rw [<- hl] at hna hnc;clear hl;obtain ⟨x0, x1, x2, x3, x4, x5⟩ := six_of hc;simp only [Nat.zero_add] at x0 x1 x2 x3 x4 x5;clear hc;have SZ : ∀ i, i < ls'.length -> (∀ b o, (ls'[i]?.getD noLV).f.a = some ⟨b, o, none⟩ -> b < wr.heap.size) /\ (∀ b o, (ls'[i]?.getD noLV).f.c = some ⟨b, o, none⟩ -> b < wr.heap.size) := fun i hi => ⟨fun b o e => (j.na i hi b o e).2.1, fun b o e => (j.nc i hi b o e).2.1⟩
    have al := (Below.refl wr.heap.size wr).alloc (qM _) (.cells #[.int .i64 l.kind, .int .i64 l.pot, .int .i64 l.skip, .slice l.f.a l.f.n l.f.cap, .slice l.f.c l.f.m l.f.cap', .int .i64 l.f.K] 153);have ja := j.below al;have hla := hat.below al;have hszA := ja.t.size;clear al j hat
    go_wp2_with (at_builtin; refine wpList_append_lies _ rfl (.tmp 80) (.tmp 85) 57 rfl w.heap.size 153 i0 _ 6 80 Tryz.underlying57 hi hz0 hz1 hz2 rfl (by omega) (.slice (some ⟨g', 0, none⟩) N' c') N' (ls'.flatMap LV.cs) (by rfl) (by have h := ja.o; rw [HL.out] at h; exact h) ⟨wr.heap.size, 0, none⟩ 1 1 l.cs (by rfl) (by rfl) (World.news_of_block (cs := #[.int .i64 l.kind, .int .i64 l.pot, .int .i64 l.skip, .slice l.f.a l.f.n l.f.cap, .slice l.f.c l.f.m l.f.cap', .int .i64 l.f.K]) (t := 153) (fr := (0, 0)) (heap_alloc_new wr _)) (by have h := flatL_one [l]; simpa using h) (by omega) (by unfold maxLen; omega) (by omega) hszA (wr.heap.size + 1) (by rw [qC]) ?_)
    intro g9 cp9 w9 hown hgrow hat9 _;have jn := ja.app (H := wr.heap.size) HL.out hla hna hnc (by rw [qC]; omega) SZ hown hgrow (by rcases hat9 with h | h; exact .inl h; exact .inr (by omega));clear hown hgrow ja hla x0 x1 x2 x3 x4 x5 hna hnc SZ
    go_wp2
    go_roundw
    case rel => exact ⟨g9, N' + 1, cp9, ls' ++ [l], _, rfl, by omega, by omega, by rw [qJ, HL.out]; rfl, hq', jn⟩
    case measure => simp [lenOf]; omega
   have h7' : ¬ (N' : Int) <= 6 := by omega
   go_wp2
   go_ret
   exact ⟨_, N', c', rfl, by first | exact ⟨ls', ⟨q', j, by first | exact ⟨HL.out, by omega, by omega, by omega⟩ | omega⟩⟩ | (refine ⟨ls', ?_⟩; simp [HL.out]; exact ⟨q', j, by omega⟩) | (refine ⟨ls', ⟨q', j, ?_⟩, HL.out, ?_⟩ <;> omega)⟩
 have hgW := (j.o.lt g rfl).2;have hlo := j.t.size;have hRR := j.lR
 go_wp2_with fail
 refine (small_f R a n cap bs (q + 1 + 1 + 1) j.r (by omega) (by omega) j.r.ha).mono ?_;rintro e w6 ⟨BA, DA, LCA, LDA, KA, rfl, t5, R5, f5, _, _, _, _⟩;have zA1 := f5.b1;have zA2 := f5.b2;have lA1 := f5.k1.lt;have lA2 := f5.k2.lt;have sA := t5.size;have GA : FA w6 (some ⟨BA, 0, none⟩) 3 (some ⟨DA, 0, none⟩) 2 (LCA, LDA, KA) := ⟨f5.k1.ints' f5.l1, f5.k2.ints' f5.l2, by omega, by omega⟩
 replace j := j.pick t5 R5;clear t5 R5 f5
 go_wp2_with fail
 refine (small_f R a n cap bs (q + 1 + 1 + 1 + 6) j.r (by omega) (by omega) j.r.ha).mono ?_;rintro e w7 ⟨BE, DE, LCE, LDE, KE, rfl, t5, R5, f5, _, _, _, _⟩;have zE1 := f5.b1;have zE2 := f5.b2;have lE1 := f5.k1.lt;have lE2 := f5.k2.lt;have sE := t5.size;have GE : FA w7 (some ⟨BE, 0, none⟩) 3 (some ⟨DE, 0, none⟩) 2 (LCE, LDE, KE) := ⟨f5.k1.ints' f5.l1, f5.k2.ints' f5.l2, by omega, by omega⟩
 replace GA := GA.far t5 (lo := w5.heap.size) (fun k hk => by omega) zA1 zA2;replace j := j.pick t5 R5;clear t5 R5 f5;have SZ : ∀ i, i < ls.length -> (∀ b o, (ls[i]?.getD noLV).f.a = some ⟨b, o, none⟩ -> b < w7.heap.size) /\ (∀ b o, (ls[i]?.getD noLV).f.c = some ⟨b, o, none⟩ -> b < w7.heap.size) := fun i hi => ⟨fun b o e => (j.na i hi b o e).2.1, fun b o e => (j.nc i hi b o e).2.1⟩
 have al := (Below.refl w7.heap.size w7).alloc (qM _) (.cells #[.int .i64 1, .int .i64 0, .int .i64 1, .slice (some ⟨BA, 0, none⟩) 3 3, .slice (some ⟨DA, 0, none⟩) 2 2, .int .i64 KA, .int .i64 1, .int .i64 0, .int .i64 1, .slice (some ⟨BE, 0, none⟩) 3 3, .slice (some ⟨DE, 0, none⟩) 2 2, .int .i64 KE] 153);have ja := j.below al;replace GA := GA.below al;replace GE := GE.below al;have hszA := ja.t.size;clear al j
 go_wp2_with (at_builtin; refine wpList_append_lies _ rfl (.tmp 25) (.tmp 32) 57 rfl w.heap.size 153 i0 _ 6 80 Tryz.underlying57 hi hz0 hz1 hz2 rfl (by omega) (.slice (some ⟨g, 0, none⟩) N c) N (ls.flatMap LV.cs) (by rfl) (by have h := ja.o; rw [HN.out] at h; exact h) ⟨w7.heap.size, 0, none⟩ 2 2 [.int .i64 1, .int .i64 0, .int .i64 1, .slice (some ⟨BA, 0, none⟩) 3 3, .slice (some ⟨DA, 0, none⟩) 2 2, .int .i64 KA, .int .i64 1, .int .i64 0, .int .i64 1, .slice (some ⟨BE, 0, none⟩) 3 3, .slice (some ⟨DE, 0, none⟩) 2 2, .int .i64 KE] (by rfl) (by rfl) (World.news_of_block (cs := #[.int .i64 1, .int .i64 0, .int .i64 1, .slice (some ⟨BA, 0, none⟩) 3 3, .slice (some ⟨DA, 0, none⟩) 2 2, .int .i64 KA, .int .i64 1, .int .i64 0, .int .i64 1, .slice (some ⟨BE, 0, none⟩) 3 3, .slice (some ⟨DE, 0, none⟩) 2 2, .int .i64 KE]) (t := 153) (fr := (0, 0)) (heap_alloc_new w7 _)) (by simp [Value.oneCell']) (by omega) (by unfold maxLen; omega) (by omega) hszA (w7.heap.size + 1) (by rw [qC]) ?_)
 intro g9 cp9 w9 hown hgrow hat9 _
 have jn := ja.apps (ns := [⟨1, 0, 1, ⟨some ⟨BA, 0, none⟩, 3, 3, some ⟨DA, 0, none⟩, 2, 2, KA, LCA, LDA⟩⟩, ⟨1, 0, 1, ⟨some ⟨BE, 0, none⟩, 3, 3, some ⟨DE, 0, none⟩, 2, 2, KE, LCE, LDE⟩⟩]) (H := w7.heap.size) HN.out rfl (fun i hi => by (rcases i with _ | _ | i; exact ⟨GA.C, GA.D, GA.hn, GA.hm⟩; exact ⟨GE.C, GE.D, GE.hn, GE.hm⟩; simp only [qK, qL] at hi; omega)) (two_lv (P := fun x => ∀ b o, x.f.a = some ⟨b, o, none⟩ -> w.heap.size <= b /\ b < w7.heap.size /\ (Value.slice (some ⟨g, 0, none⟩) N c).ownBlock ≠ some b) (fun b o e => by have e9 : (some ⟨BA, 0, none⟩ : Option Addr) = some ⟨b, o, none⟩ := e; simp only [qA, qB] at e9; exact ⟨by omega, by omega, by simp only [Value.ownBlock, ne_eq, qA]; omega⟩) (fun b o e => by have e9 : (some ⟨BE, 0, none⟩ : Option Addr) = some ⟨b, o, none⟩ := e; simp only [qA, qB] at e9; exact ⟨by omega, by omega, by simp only [Value.ownBlock, ne_eq, qA]; omega⟩)) (two_lv (P := fun x => ∀ b o, x.f.c = some ⟨b, o, none⟩ -> w.heap.size <= b /\ b < w7.heap.size /\ (Value.slice (some ⟨g, 0, none⟩) N c).ownBlock ≠ some b) (fun b o e => by have e9 : (some ⟨DA, 0, none⟩ : Option Addr) = some ⟨b, o, none⟩ := e; simp only [qA, qB] at e9; exact ⟨by omega, by omega, by simp only [Value.ownBlock, ne_eq, qA]; omega⟩) (fun b o e => by have e9 : (some ⟨DE, 0, none⟩ : Option Addr) = some ⟨b, o, none⟩ := e; simp only [qA, qB] at e9; exact ⟨by omega, by omega, by simp only [Value.ownBlock, ne_eq, qA]; omega⟩)) (by rw [qC]; omega) SZ hown hgrow (by rcases hat9 with h | h; exact .inl h; exact .inr (by omega))
 clear hown hgrow ja SZ
 go_wp2
 go_ret
 exact ⟨_, N + 2, cp9, _, _, rfl, jn, by rw [qJ, HN.out]; rfl, by omega, by omega, by omega⟩
def coRB (c d : Int) (xs ys : List Int) : Bool := (c == d) && eqB xs ys
theorem coRB_same (c : Int) (xs : List Int) : coRB c c xs xs = true := by simp [coRB, eqB]
theorem coR_any (c d : Int) {a : Option Addr} {n cap : Nat} {b : Option Addr} {m cap' : Nat} (xs ys : List Int) (w : World) (h : Ints w a n xs) (h' : Ints w b m ys) (hn : n <= 1048576) (hm : m <= 1048576) :
  Calls Tryz.prog 59 #[resV c a n cap, resV d b m cap'] w fun e w' => e = .returned (.bool (coRB c d xs ys)) /\ Below w.heap.size w w' := by
 cases h1 : (c == d)
 ·go_enter Tryz.func59, Tryz.ntmps59
  go_wp2
  go_ret
  exact ⟨ret_bool (by simp [coRB, h1]), (bal).alloc (by simp) _⟩
 go_enter Tryz.func59, Tryz.ntmps59
 go_wp2_with fail
 refine (coI_any xs ys _ ((h.alloc _).alloc _) ((h'.alloc _).alloc _) hn hm).mono ?_;rintro e w1 ⟨rfl, b1⟩
 go_wp2
 go_ret
 exact ⟨ret_bool (by simp [coRB, h1]), ((bal).alloc (by simp) _).trans (b1.mono (by simp; omega))⟩
theorem ints_none : Ints w a 0 [] := ⟨rfl, fun i hi => by omega⟩
theorem DX.cellsK {W : World} {f : Nat -> Int × Int} (h : DX W a B n f) {k : Nat} (hk : k < n) : a = some ⟨B, 0, none⟩ /\ W.cell? ⟨B, k * 3, none⟩ = some (.int .i64 (f k).1) /\ W.cell? ⟨B, k * 3 + 1, none⟩ = some (.int .i64 (f k).2) /\ W.cell? ⟨B, k * 3 + 2, none⟩ = some (.slice none 0 0) := by
 rcases h with h | ⟨e, cur, hc, hv⟩
 ·omega
 obtain ⟨h0, h1, h2⟩ := hv k hk
 exact ⟨e, (hc.cell _).trans h0, (hc.cell _).trans h1, (hc.cell _).trans h2⟩
theorem GX.cellsK {W : World} {f : Nat -> Bool} (h : GX W a B n f) {k : Nat} (hk : k < n) : a = some ⟨B, 0, none⟩ /\ W.cell? ⟨B, k * 3, none⟩ = some (.bool (f k)) /\ W.cell? ⟨B, k * 3 + 1, none⟩ = some (.slice none 0 0) /\ W.cell? ⟨B, k * 3 + 2, none⟩ = some (.slice none 0 0) := by
 rcases h with h | ⟨e, cur, hc, hv⟩
 ·omega
 obtain ⟨h0, h1, h2⟩ := hv k hk
 exact ⟨e, (hc.cell _).trans h0, (hc.cell _).trans h1, (hc.cell _).trans h2⟩
theorem coDn_same {cap : Nat} {a' : Option Addr} {B' cap' : Nat} (hn1 : n <= 1048576) (h : DX w a B n (fun _ => (0, 0))) (h' : DX w a' B' n (fun _ => (0, 0))) :
  Calls Tryz.prog 18 #[.slice a n cap, .slice a' n cap'] w fun e w' => e = .returned (.bool true) /\ Below w.heap.size w w' := by
 go_enter Tryz.func18, Tryz.ntmps18
 go_wp2_with fail
 go_loopw [5] (fun i wr => ∃ k : Nat, k <= n /\ i = .int .i64 k /\ Below w.heap.size w wr) (fun i _ => n - (intOf i).toNat)
 case atStart => exact ⟨0, Nat.zero_le _, rfl, Below.refl _ _⟩
 case round =>
  obtain ⟨k, hk, rfl, hnx⟩ := hrel
  by_cases hlt : k < n
  ·obtain ⟨rfl, p0, p1, p2⟩ := (h.below hnx).cellsK hlt;obtain ⟨rfl, p3, p4, p5⟩ := (h'.below hnx).cellsK hlt;clear h h';have hlt' : (k : Int) < (n : Int) := by omega
   have KP : Hid (∀ X, Below wr.heap.size wr X -> (X.cell? ⟨B, k * 3, none⟩ = some (.int .i64 0) /\ X.cell? ⟨B, k * 3 + 1, none⟩ = some (.int .i64 0) /\ X.cell? ⟨B, k * 3 + 2, none⟩ = some (.slice none 0 0) /\ X.cell? ⟨B', k * 3, none⟩ = some (.int .i64 0) /\ X.cell? ⟨B', k * 3 + 1, none⟩ = some (.int .i64 0) /\ X.cell? ⟨B', k * 3 + 2, none⟩ = some (.slice none 0 0))) := fun X hX => ⟨(hX.cell (p := ⟨B, k * 3, none⟩) (block_lt p0)).trans p0, (hX.cell (p := ⟨B, k * 3 + 1, none⟩) (block_lt p1)).trans p1, (hX.cell (p := ⟨B, k * 3 + 2, none⟩) (block_lt p2)).trans p2, (hX.cell (p := ⟨B', k * 3, none⟩) (block_lt p3)).trans p3, (hX.cell (p := ⟨B', k * 3 + 1, none⟩) (block_lt p4)).trans p4, (hX.cell (p := ⟨B', k * 3 + 2, none⟩) (block_lt p5)).trans p5⟩
   go_upto_region 6 with fail
   refine wp_region_ends (fun X => X.cell? ⟨B, k * 3, none⟩ = some (.int .i64 0) /\ X.cell? ⟨B, k * 3 + 1, none⟩ = some (.int .i64 0) /\ X.cell? ⟨B, k * 3 + 2, none⟩ = some (.slice none 0 0) /\ X.cell? ⟨B', k * 3, none⟩ = some (.int .i64 0) /\ X.cell? ⟨B', k * 3 + 1, none⟩ = some (.int .i64 0) /\ X.cell? ⟨B', k * 3 + 2, none⟩ = some (.slice none 0 0)) (fun _ => True) 24 (by kernel_rfl) ?_;have BV : Below wr.heap.size wr wr.drew := (Below.refl _ _).drew;obtain ⟨V, hV⟩ : ∃ V, V = wr.drew := ⟨_, rfl⟩
   rw [<- hV] at BV;rw [<- hV];clear hV;have hSS : (V.cell? ⟨B, k * 3, none⟩ = some (.int .i64 0) /\ V.cell? ⟨B, k * 3 + 1, none⟩ = some (.int .i64 0) /\ V.cell? ⟨B, k * 3 + 2, none⟩ = some (.slice none 0 0) /\ V.cell? ⟨B', k * 3, none⟩ = some (.int .i64 0) /\ V.cell? ⟨B', k * 3 + 1, none⟩ = some (.int .i64 0) /\ V.cell? ⟨B', k * 3 + 2, none⟩ = some (.slice none 0 0)) /\ True := ⟨KP.out _ BV, trivial⟩
   refine tkl 0 rfl hSS ?_;refine tkl 1 rfl hSS ?_;refine tkl 2 rfl hSS ?_;refine tkl 3 rfl hSS ?_;simp only [Act.put, qD, qF, qE, qI, qH, qG];refine tkl 4 rfl hSS ?_;refine tkl 5 rfl hSS ?_;refine tkl 6 rfl hSS ?_;refine tkl 7 rfl hSS ?_;simp only [Act.put, qD, qF, qE, qI, qH, qG];refine tkl 8 rfl hSS ?_;refine tkl 9 rfl hSS ?_;refine tkl 10 rfl hSS ?_;refine tkl 11 rfl hSS ?_;simp only [Act.put, qD, qF, qE, qI, qH, qG];refine tkl 12 rfl hSS ?_;refine tkl 13 rfl hSS ?_;refine tkl 14 rfl hSS ?_;refine tkl 15 rfl hSS ?_;simp only [Act.put, qD, qF, qE, qI, qH, qG];refine tkl 16 rfl hSS ?_;refine tkl 17 rfl hSS ?_;refine tkl 18 rfl hSS ?_;refine tkl 19 rfl hSS ?_;simp only [Act.put, qD, qF, qE, qI, qH, qG];refine tkl 20 rfl hSS ?_;refine tkl 21 rfl hSS ?_;refine wo1 22 rfl fun K hK => ?_;go_simp;refine (coR_any 0 0 [] [] V (ints_none) (ints_none) (by omega) (by omega)).mono ?_;rintro ee w22 ⟨rfl, b22⟩;rw [coRB_same]
   have B22 := btr BV b22;clear hSS;have hSS : (w22.cell? ⟨B, k * 3, none⟩ = some (.int .i64 0) /\ w22.cell? ⟨B, k * 3 + 1, none⟩ = some (.int .i64 0) /\ w22.cell? ⟨B, k * 3 + 2, none⟩ = some (.slice none 0 0) /\ w22.cell? ⟨B', k * 3, none⟩ = some (.int .i64 0) /\ w22.cell? ⟨B', k * 3 + 1, none⟩ = some (.int .i64 0) /\ w22.cell? ⟨B', k * 3 + 2, none⟩ = some (.slice none 0 0)) /\ True := ⟨KP.out _ B22, trivial⟩
   (try dsimp only);refine kk0 hK (hSS.1) ?_;refine tkl 23 rfl hSS ?_;refine wo1 24 rfl fun K hK => ?_;go_simp;refine kk0 hK (hSS.1) ?_;refine wod ?_ _;clear hSS;clear KP;have hn2 := btr hnx B22
   skip
   go_wp2
   go_roundw
   case rel => exact ⟨k + 1, by omega, by go_num, hn2⟩
   case measure => simp [intOf]; omega
  have hlt' : ¬ (k : Int) < (n : Int) := by omega
  skip
  go_wp2
  go_ret
  exact ⟨rfl, hnx⟩
theorem coCs_none : Calls Tryz.prog 45 #[.slice none 0 0, .slice none 0 0] w fun e w' => e = .returned (.bool true) /\ Below w.heap.size w w' := by
 go_enter Tryz.func45, Tryz.ntmps45
 go_wp2_with fail
 go_loopw [5] (fun i wr => i = .int .i64 0 /\ wr = w) (fun _ _ => 0)
 case atStart => exact ⟨rfl, rfl⟩
 case round =>
  obtain ⟨rfl, rfl⟩ := hrel
  go_wp2
  go_ret
  exact ⟨rfl, Below.refl _ _⟩
theorem coSt_same (b f : Bool) (r : Int) {ba : Option Addr} {bn bc : Nat} {aa : Option Addr} {an ac : Nat} {da : Option Addr} {B dn dc : Nat} {ba' : Option Addr} {bc' : Nat} {aa' : Option Addr} {ac' : Nat} {da' : Option Addr} {B' dc' : Nat} (Bs As : List Int) {w : World}
  (i1 : Ints w ba bn Bs) (i2 : Ints w aa an As) (d1 : DX w da B dn (fun _ => (0, 0))) (j1 : Ints w ba' bn Bs) (j2 : Ints w aa' an As) (d2 : DX w da' B' dn (fun _ => (0, 0))) (z1 : bn <= 1048576 := by omega) (z2 : an <= 1048576 := by omega) (z3 : dn <= 1048576 := by omega) :
  Calls Tryz.prog 9 #[sitV b f r ba bn bc aa an ac da dn dc, sitV b f r ba' bn bc' aa' an ac' da' dn dc'] w fun e w' => e = .returned (.bool true) /\ Below w.heap.size w w' := by
 have eb : (b == b) = true := by cases b <;> rfl
 have ef : (f == f) = true := by cases f <;> rfl
 have er : (r == r) = true := by simp
 go_enter Tryz.func9, Tryz.ntmps9
 have al := (Below.refl (w).heap.size (w)).alloc (qM _) (.cells #[.bool b, .bool f, .int .i64 r, .slice ba bn bc, .slice aa an ac, .slice da dn dc] 30);have BB := al;replace i1 := i1.below al;replace i2 := i2.below al;replace d1 := d1.below al;replace j1 := j1.below al;replace j2 := j2.below al;replace d2 := d2.below al;clear al;have q2 := Cel.new (w) [.bool b, .bool f, .int .i64 r, .slice ba bn bc, .slice aa an ac, .slice da dn dc] 30;have al := (Below.refl ((w).alloc (.cells #[.bool b, .bool f, .int .i64 r, .slice ba bn bc, .slice aa an ac, .slice da dn dc] 30)).heap.size ((w).alloc (.cells #[.bool b, .bool f, .int .i64 r, .slice ba bn bc, .slice aa an ac, .slice da dn dc] 30))).alloc (qM _) (.cells #[.bool b, .bool f, .int .i64 r, .slice ba' bn bc', .slice aa' an ac', .slice da' dn dc'] 30);replace BB := btr BB al;replace i1 := i1.below al;replace i2 := i2.below al;replace d1 := d1.below al;replace j1 := j1.below al;replace j2 := j2.below al;replace d2 := d2.below al;replace q2 := q2.below al;clear al;have q3 := Cel.new ((w).alloc (.cells #[.bool b, .bool f, .int .i64 r, .slice ba bn bc, .slice aa an ac, .slice da dn dc] 30)) [.bool b, .bool f, .int .i64 r, .slice ba' bn bc', .slice aa' an ac', .slice da' dn dc'] 30;simp only [qC] at q3;obtain ⟨g2_0, g2_1, g2_2, g2_3, g2_4, g2_5⟩ := q2.c6;obtain ⟨g3_0, g3_1, g3_2, g3_3, g3_4, g3_5⟩ := q3.c6
 go_wp2_with fail
 generalize ((w).alloc (.cells #[.bool b, .bool f, .int .i64 r, .slice ba bn bc, .slice aa an ac, .slice da dn dc] 30)).alloc (.cells #[.bool b, .bool f, .int .i64 r, .slice ba' bn bc', .slice aa' an ac', .slice da' dn dc'] 30) = W1 at i1 i2 d1 j1 j2 d2 q2 q3 BB g2_0 g2_1 g2_2 g2_3 g2_4 g2_5 g3_0 g3_1 g3_2 g3_3 g3_4 g3_5 ⊢;generalize w.heap.size + 1 = X3 at q3 g3_0 g3_1 g3_2 g3_3 g3_4 g3_5 ⊢;generalize w.heap.size = X2 at q2 g2_0 g2_1 g2_2 g2_3 g2_4 g2_5 ⊢;refine (coI_any Bs Bs _ i1 j1 z1 z1).mono ?_;rintro ee w2 ⟨rfl, b1⟩;rw [eqB_refl];clear g2_0 g2_1 g2_2 g2_3 g2_4 g2_5 g3_0 g3_1 g3_2 g3_3 g3_4 g3_5;replace BB := btr BB b1;replace i1 := i1.below b1;replace i2 := i2.below b1;replace d1 := d1.below b1;replace j1 := j1.below b1;replace j2 := j2.below b1;replace d2 := d2.below b1;replace q2 := q2.below b1;replace q3 := q3.below b1;clear b1;obtain ⟨g2_0, g2_1, g2_2, g2_3, g2_4, g2_5⟩ := q2.c6;obtain ⟨g3_0, g3_1, g3_2, g3_3, g3_4, g3_5⟩ := q3.c6
 go_wp2_with fail
 refine (coI_any As As _ i2 j2 z2 z2).mono ?_;rintro ee w3 ⟨rfl, b2⟩;rw [eqB_refl];clear g2_0 g2_1 g2_2 g2_3 g2_4 g2_5 g3_0 g3_1 g3_2 g3_3 g3_4 g3_5;replace BB := btr BB b2;replace i1 := i1.below b2;replace i2 := i2.below b2;replace d1 := d1.below b2;replace j1 := j1.below b2;replace j2 := j2.below b2;replace d2 := d2.below b2;replace q2 := q2.below b2;replace q3 := q3.below b2;clear b2;obtain ⟨g2_0, g2_1, g2_2, g2_3, g2_4, g2_5⟩ := q2.c6;obtain ⟨g3_0, g3_1, g3_2, g3_3, g3_4, g3_5⟩ := q3.c6
 go_wp2_with fail
 refine (coDn_same z3 d1 d2).mono ?_;rintro ee w4 ⟨rfl, b3⟩;clear g2_0 g2_1 g2_2 g2_3 g2_4 g2_5 g3_0 g3_1 g3_2 g3_3 g3_4 g3_5;replace BB := btr BB b3;replace i1 := i1.below b3;replace i2 := i2.below b3;replace d1 := d1.below b3;replace j1 := j1.below b3;replace j2 := j2.below b3;replace d2 := d2.below b3;replace q2 := q2.below b3;replace q3 := q3.below b3;clear b3;obtain ⟨g2_0, g2_1, g2_2, g2_3, g2_4, g2_5⟩ := q2.c6;obtain ⟨g3_0, g3_1, g3_2, g3_3, g3_4, g3_5⟩ := q3.c6
 go_wp2
 go_ret
 exact ⟨rfl, BB⟩
theorem coCk_same (u : Bool) (r : Int) {ba : Option Addr} {bn bc : Nat} {da : Option Addr} {B dn dc : Nat} {ga : Option Addr} {C n gc : Nat} {ba' : Option Addr} {bc' : Nat} {da' : Option Addr} {B' dc' : Nat} {ga' : Option Addr} {C' gc' : Nat} (Bs : List Int) {w : World}
  (i1 : Ints w ba bn Bs) (d1 : DX w da B dn (fun _ => (0, 0))) (g1 : GX w ga C n (fun _ => false)) (j1 : Ints w ba' bn Bs) (d2 : DX w da' B' dn (fun _ => (0, 0))) (g2 : GX w ga' C' n (fun _ => false)) (z1 : bn <= 1048576 := by omega) (z2 : dn <= 1048576 := by omega) (z3 : n <= 1048576 := by omega) :
  Calls Tryz.prog 11 #[clkV u r ba bn bc da dn dc ga n gc, clkV u r ba' bn bc' da' dn dc' ga' n gc'] w fun e w' => e = .returned (.bool true) /\ Below w.heap.size w w' := by
 have eu : (u != u) = false := by cases u <;> rfl
 have er : (r != r) = false := by simp
 go_enter Tryz.func11, Tryz.ntmps11
 have al := (Below.refl (w).heap.size (w)).alloc (qM _) (.cells #[.bool u, .int .i64 r, .slice ba bn bc, .slice da dn dc, .slice none 0 0, .slice ga n gc] 35);have BB := al;replace i1 := i1.below al;replace d1 := d1.below al;replace g1 := g1.below al;replace j1 := j1.below al;replace d2 := d2.below al;replace g2 := g2.below al;clear al;have q2 := Cel.new (w) [.bool u, .int .i64 r, .slice ba bn bc, .slice da dn dc, .slice none 0 0, .slice ga n gc] 35;have al := (Below.refl ((w).alloc (.cells #[.bool u, .int .i64 r, .slice ba bn bc, .slice da dn dc, .slice none 0 0, .slice ga n gc] 35)).heap.size ((w).alloc (.cells #[.bool u, .int .i64 r, .slice ba bn bc, .slice da dn dc, .slice none 0 0, .slice ga n gc] 35))).alloc (qM _) (.cells #[.bool u, .int .i64 r, .slice ba' bn bc', .slice da' dn dc', .slice none 0 0, .slice ga' n gc'] 35);replace BB := btr BB al;replace i1 := i1.below al;replace d1 := d1.below al;replace g1 := g1.below al;replace j1 := j1.below al;replace d2 := d2.below al;replace g2 := g2.below al;replace q2 := q2.below al;clear al;have q3 := Cel.new ((w).alloc (.cells #[.bool u, .int .i64 r, .slice ba bn bc, .slice da dn dc, .slice none 0 0, .slice ga n gc] 35)) [.bool u, .int .i64 r, .slice ba' bn bc', .slice da' dn dc', .slice none 0 0, .slice ga' n gc'] 35;simp only [qC] at q3;obtain ⟨g2_0, g2_1, g2_2, g2_3, g2_4, g2_5⟩ := q2.c6;obtain ⟨g3_0, g3_1, g3_2, g3_3, g3_4, g3_5⟩ := q3.c6
 go_wp2_with fail
 generalize ((w).alloc (.cells #[.bool u, .int .i64 r, .slice ba bn bc, .slice da dn dc, .slice none 0 0, .slice ga n gc] 35)).alloc (.cells #[.bool u, .int .i64 r, .slice ba' bn bc', .slice da' dn dc', .slice none 0 0, .slice ga' n gc'] 35) = W1 at i1 d1 g1 j1 d2 g2 q2 q3 BB g2_0 g2_1 g2_2 g2_3 g2_4 g2_5 g3_0 g3_1 g3_2 g3_3 g3_4 g3_5 ⊢;generalize w.heap.size + 1 = X3 at q3 g3_0 g3_1 g3_2 g3_3 g3_4 g3_5 ⊢;generalize w.heap.size = X2 at q2 g2_0 g2_1 g2_2 g2_3 g2_4 g2_5 ⊢;refine (coI_any Bs Bs _ i1 j1 z1 z1).mono ?_;rintro ee w2 ⟨rfl, b1⟩;rw [eqB_refl];clear g2_0 g2_1 g2_2 g2_3 g2_4 g2_5 g3_0 g3_1 g3_2 g3_3 g3_4 g3_5;replace BB := btr BB b1;replace i1 := i1.below b1;replace d1 := d1.below b1;replace g1 := g1.below b1;replace j1 := j1.below b1;replace d2 := d2.below b1;replace g2 := g2.below b1;replace q2 := q2.below b1;replace q3 := q3.below b1;clear b1;obtain ⟨g2_0, g2_1, g2_2, g2_3, g2_4, g2_5⟩ := q2.c6;obtain ⟨g3_0, g3_1, g3_2, g3_3, g3_4, g3_5⟩ := q3.c6
 go_wp2_with fail
 refine (coDn_same z2 d1 d2).mono ?_;rintro ee w3 ⟨rfl, b2⟩;clear g2_0 g2_1 g2_2 g2_3 g2_4 g2_5 g3_0 g3_1 g3_2 g3_3 g3_4 g3_5;replace BB := btr BB b2;replace i1 := i1.below b2;replace d1 := d1.below b2;replace g1 := g1.below b2;replace j1 := j1.below b2;replace d2 := d2.below b2;replace g2 := g2.below b2;replace q2 := q2.below b2;replace q3 := q3.below b2;clear b2;obtain ⟨g2_0, g2_1, g2_2, g2_3, g2_4, g2_5⟩ := q2.c6;obtain ⟨g3_0, g3_1, g3_2, g3_3, g3_4, g3_5⟩ := q3.c6
 go_wp2_with fail
 refine (coCs_none).mono ?_;rintro ee w4 ⟨rfl, b3⟩;clear g2_0 g2_1 g2_2 g2_3 g2_4 g2_5 g3_0 g3_1 g3_2 g3_3 g3_4 g3_5;replace BB := btr BB b3;replace i1 := i1.below b3;replace d1 := d1.below b3;replace g1 := g1.below b3;replace j1 := j1.below b3;replace d2 := d2.below b3;replace g2 := g2.below b3;replace q2 := q2.below b3;replace q3 := q3.below b3;clear b3;obtain ⟨g2_0, g2_1, g2_2, g2_3, g2_4, g2_5⟩ := q2.c6;obtain ⟨g3_0, g3_1, g3_2, g3_3, g3_4, g3_5⟩ := q3.c6;clear i1 d1 j1 d2
 go_wp2_with fail
 clear g2_0 g2_1 g2_2 g2_3 g2_4 g2_5 g3_0 g3_1 g3_2 g3_3 g3_4 g3_5
 go_loopw [5] (fun i wr => ∃ k : Nat, k <= n /\ i = .int .i64 k /\ Below w4.heap.size w4 wr) (fun i _ => n - (intOf i).toNat)
 case atStart => exact ⟨0, Nat.zero_le _, rfl, Below.refl _ _⟩
 case round =>
  obtain ⟨k, hk, rfl, hnx⟩ := hrel;have p0 := (q2.below hnx).cell 5;have p1 := (q3.below hnx).cell 5;simp only [List.getElem?_cons_zero, List.getElem?_cons_succ] at p0 p1
  by_cases hlt : k < n
  ·obtain ⟨rfl, p2, p3, p4⟩ := (g1.below hnx).cellsK hlt;obtain ⟨rfl, p5, p6, p7⟩ := (g2.below hnx).cellsK hlt;have hlt' : (k : Int) < (n : Int) := by omega
   have KP : Hid (∀ X, Below wr.heap.size wr X -> (X.cell? ⟨X2, 5, none⟩ = some (.slice (some ⟨C, 0, none⟩) n gc) /\ X.cell? ⟨X3, 5, none⟩ = some (.slice (some ⟨C', 0, none⟩) n gc') /\ X.cell? ⟨C, k * 3, none⟩ = some (.bool false) /\ X.cell? ⟨C, k * 3 + 1, none⟩ = some (.slice none 0 0) /\ X.cell? ⟨C, k * 3 + 2, none⟩ = some (.slice none 0 0) /\ X.cell? ⟨C', k * 3, none⟩ = some (.bool false) /\ X.cell? ⟨C', k * 3 + 1, none⟩ = some (.slice none 0 0) /\ X.cell? ⟨C', k * 3 + 2, none⟩ = some (.slice none 0 0))) := fun X hX => ⟨(hX.cell (p := ⟨X2, 5, none⟩) (block_lt p0)).trans p0, (hX.cell (p := ⟨X3, 5, none⟩) (block_lt p1)).trans p1, (hX.cell (p := ⟨C, k * 3, none⟩) (block_lt p2)).trans p2, (hX.cell (p := ⟨C, k * 3 + 1, none⟩) (block_lt p3)).trans p3, (hX.cell (p := ⟨C, k * 3 + 2, none⟩) (block_lt p4)).trans p4, (hX.cell (p := ⟨C', k * 3, none⟩) (block_lt p5)).trans p5, (hX.cell (p := ⟨C', k * 3 + 1, none⟩) (block_lt p6)).trans p6, (hX.cell (p := ⟨C', k * 3 + 2, none⟩) (block_lt p7)).trans p7⟩
   go_upto_region 6 with fail
   refine wp_region_ends (fun X => X.cell? ⟨X2, 5, none⟩ = some (.slice (some ⟨C, 0, none⟩) n gc) /\ X.cell? ⟨X3, 5, none⟩ = some (.slice (some ⟨C', 0, none⟩) n gc') /\ X.cell? ⟨C, k * 3, none⟩ = some (.bool false) /\ X.cell? ⟨C, k * 3 + 1, none⟩ = some (.slice none 0 0) /\ X.cell? ⟨C, k * 3 + 2, none⟩ = some (.slice none 0 0) /\ X.cell? ⟨C', k * 3, none⟩ = some (.bool false) /\ X.cell? ⟨C', k * 3 + 1, none⟩ = some (.slice none 0 0) /\ X.cell? ⟨C', k * 3 + 2, none⟩ = some (.slice none 0 0)) (fun _ => True) 44 (by kernel_rfl) ?_;have BV : Below wr.heap.size wr wr.drew := (Below.refl _ _).drew;obtain ⟨V, hV⟩ : ∃ V, V = wr.drew := ⟨_, rfl⟩
   rw [<- hV] at BV;rw [<- hV];clear hV;have hSS : (V.cell? ⟨X2, 5, none⟩ = some (.slice (some ⟨C, 0, none⟩) n gc) /\ V.cell? ⟨X3, 5, none⟩ = some (.slice (some ⟨C', 0, none⟩) n gc') /\ V.cell? ⟨C, k * 3, none⟩ = some (.bool false) /\ V.cell? ⟨C, k * 3 + 1, none⟩ = some (.slice none 0 0) /\ V.cell? ⟨C, k * 3 + 2, none⟩ = some (.slice none 0 0) /\ V.cell? ⟨C', k * 3, none⟩ = some (.bool false) /\ V.cell? ⟨C', k * 3 + 1, none⟩ = some (.slice none 0 0) /\ V.cell? ⟨C', k * 3 + 2, none⟩ = some (.slice none 0 0)) /\ True := ⟨KP.out _ BV, trivial⟩
   refine tkl 0 rfl hSS ?_;refine tkl 1 rfl hSS ?_;refine tkl 2 rfl hSS ?_;refine tkl 3 rfl hSS ?_;simp only [Act.put, qD, qF, qE, qI, qH, qG];refine tkl 4 rfl hSS ?_;refine tkl 5 rfl hSS ?_;refine tkl 6 rfl hSS ?_;refine tkl 7 rfl hSS ?_;simp only [Act.put, qD, qF, qE, qI, qH, qG];refine tkl 8 rfl hSS ?_;refine tkl 9 rfl hSS ?_;refine tkl 10 rfl hSS ?_;refine tkl 11 rfl hSS ?_;simp only [Act.put, qD, qF, qE, qI, qH, qG];refine tkl 12 rfl hSS ?_;refine tkl 13 rfl hSS ?_;refine tkl 14 rfl hSS ?_;refine tkl 15 rfl hSS ?_;simp only [Act.put, qD, qF, qE, qI, qH, qG];refine tkl 16 rfl hSS ?_;refine tkl 17 rfl hSS ?_;refine tkl 18 rfl hSS ?_;refine tkl 19 rfl hSS ?_;simp only [Act.put, qD, qF, qE, qI, qH, qG];refine tkl 20 rfl hSS ?_;refine tkl 21 rfl hSS ?_;refine tkl 22 rfl hSS ?_;refine tkl 23 rfl hSS ?_
   simp only [Act.put, qD, qF, qE, qI, qH, qG];refine tkl 24 rfl hSS ?_;refine tkl 25 rfl hSS ?_;refine wo1 26 rfl fun K hK => ?_;go_simp;refine (coI_any [] [] V (ints_none) (ints_none) (by omega) (by omega)).mono ?_;rintro ee w26 ⟨rfl, b26⟩;rw [eqB_refl];have B26 := btr BV b26;clear hSS;have hSS : (w26.cell? ⟨X2, 5, none⟩ = some (.slice (some ⟨C, 0, none⟩) n gc) /\ w26.cell? ⟨X3, 5, none⟩ = some (.slice (some ⟨C', 0, none⟩) n gc') /\ w26.cell? ⟨C, k * 3, none⟩ = some (.bool false) /\ w26.cell? ⟨C, k * 3 + 1, none⟩ = some (.slice none 0 0) /\ w26.cell? ⟨C, k * 3 + 2, none⟩ = some (.slice none 0 0) /\ w26.cell? ⟨C', k * 3, none⟩ = some (.bool false) /\ w26.cell? ⟨C', k * 3 + 1, none⟩ = some (.slice none 0 0) /\ w26.cell? ⟨C', k * 3 + 2, none⟩ = some (.slice none 0 0)) /\ True := ⟨KP.out _ B26, trivial⟩
   (try dsimp only);refine kk0 hK (hSS.1) ?_;refine tkl 27 rfl hSS ?_;refine tkl 28 rfl hSS ?_;refine tkl 29 rfl hSS ?_;refine tkl 30 rfl hSS ?_;simp only [Act.put, qD, qF, qE, qI, qH, qG];refine tkl 31 rfl hSS ?_;refine tkl 32 rfl hSS ?_;refine tkl 33 rfl hSS ?_;refine tkl 34 rfl hSS ?_;simp only [Act.put, qD, qF, qE, qI, qH, qG];refine tkl 35 rfl hSS ?_;refine tkl 36 rfl hSS ?_;refine tkl 37 rfl hSS ?_;refine tkl 38 rfl hSS ?_;simp only [Act.put, qD, qF, qE, qI, qH, qG];refine tkl 39 rfl hSS ?_;refine tkl 40 rfl hSS ?_;refine tkl 41 rfl hSS ?_;refine wo1 42 rfl fun K hK => ?_;go_simp;refine (coI_any [] [] w26 (ints_none) (ints_none) (by omega) (by omega)).mono ?_;rintro ee w42 ⟨rfl, b42⟩;rw [eqB_refl];have B42 := btr B26 b42;clear hSS
   have hSS : (w42.cell? ⟨X2, 5, none⟩ = some (.slice (some ⟨C, 0, none⟩) n gc) /\ w42.cell? ⟨X3, 5, none⟩ = some (.slice (some ⟨C', 0, none⟩) n gc') /\ w42.cell? ⟨C, k * 3, none⟩ = some (.bool false) /\ w42.cell? ⟨C, k * 3 + 1, none⟩ = some (.slice none 0 0) /\ w42.cell? ⟨C, k * 3 + 2, none⟩ = some (.slice none 0 0) /\ w42.cell? ⟨C', k * 3, none⟩ = some (.bool false) /\ w42.cell? ⟨C', k * 3 + 1, none⟩ = some (.slice none 0 0) /\ w42.cell? ⟨C', k * 3 + 2, none⟩ = some (.slice none 0 0)) /\ True := ⟨KP.out _ B42, trivial⟩
   (try dsimp only);refine kk0 hK (hSS.1) ?_;refine tkl 43 rfl hSS ?_;refine wo1 44 rfl fun K hK => ?_;go_simp;refine kk0 hK (hSS.1) ?_;refine wod ?_ _;clear hSS;clear KP;have hn2 := btr hnx B42
   go_wp2
   go_roundw
   case rel => exact ⟨k + 1, by omega, by go_num, hn2⟩
   case measure => simp [intOf]; omega
  have hlt' : ¬ (k : Int) < (n : Int) := by omega
  go_wp2
  go_ret
  exact ⟨rfl, btr BB hnx⟩
structure L2V where
 a : Option Addr
 n : Nat
 cap : Nat
 x : List LV
def noL : L2V := ⟨none, 0, 0, []⟩
def L2V.v (s : L2V) : Value := .slice s.a s.n s.cap
def LG (w : World) (s : L2V) : Prop := s.x.length = s.n /\ LinesG w s.a s.x /\ s.n <= 1048576
def LS (s : L2V) : Prop := s.n <= 1048576 /\ ∀ i, i < s.x.length -> (s.x[i]?.getD noLV).f.n <= 1048576 /\ (s.x[i]?.getD noLV).f.m <= 1048576
def LK (w : World) (lo : Nat) (s : L2V) : Prop := ∃ B l p q, s.a = some ⟨B, 0, none⟩ /\ lo <= B /\ ML w B l s.n s.x p q /\ s.x.length = s.n /\ s.n <= 1048576
theorem LG.below {w' : World} {s : L2V} (h : LG w s) (hb : Below w.heap.size w w') : LG w' s := ⟨h.1, h.2.1.below hb, h.2.2⟩
def LSG (w : World) (ad : Option Addr) (ss : List L2V) : Prop :=
 ∀ i, i < ss.length -> ∃ b off, ad = some ⟨b, off, none⟩ /\ w.cell? ⟨b, off + i, none⟩ = some (ss[i]?.getD noL).v /\ LG w (ss[i]?.getD noL)
theorem LSG.below {w' : World} {ad : Option Addr} {ss : List L2V} (h : LSG w ad ss) (hb : Below w.heap.size w w') : LSG w' ad ss := fun i hi => by
 obtain ⟨b, off, e, hc, hr⟩ := h i hi
 exact ⟨b, off, e, by rw [hb.cell (p := ⟨b, off + i, none⟩) (block_lt hc)]; exact hc, hr.below hb⟩
end Go.Proofs.YtpmihhbgjimpmaaGreatDoor
