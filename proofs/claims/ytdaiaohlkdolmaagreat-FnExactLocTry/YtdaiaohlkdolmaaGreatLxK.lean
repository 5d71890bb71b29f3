/-
  Lemmas that the claim's last text rests on.
-/
import Derived.Shelf.Abstract
import Derived.Shelf.RegionOpen
import Derived.OwnWalkIn
import Derived.TacticsInMore
import Derived.LoopNIn
import Derived.LoopIn
import Derived.Test.YtdaiaohlkdolmaaGreatLxJ
namespace Go.Proofs.YtdaiaohlkdolmaaGreat
open Go.RowKit Go.Deep Go.Shelf
open World renaming size_alloc → qA
open List renaming setIfInBounds_toArray → qB, set_cons_zero → qE, set_cons_succ → qF, getElem_cons_zero → qG, getElem_cons_succ → qH, getElem_toArray → qI, length_append → qJ, length_cons → qL, length_nil → qM, size_toArray → qN
set_option linter.unusedVariables false
set_option maxRecDepth 100000
set_option maxHeartbeats 25600000
variable {G : Nat} {W X Y : World} {f : Nat -> Bool} {pre : List RowM}
def OwnBB (W : World) (G : Nat) (f : Nat -> Bool) : Prop := Cel W G [.bool (f 0), .bool (f 1), .bool (f 2)] 4
theorem OwnBB.at (h : OwnBB W G f) {v : Nat} (hv : v < 3) : W.cell? ⟨G, v, none⟩ = some (.bool (f v)) /\ W.frozen? ⟨G, v, none⟩ = false := by
 refine ⟨(Cel.cell h v).trans ?_, Cel.free h v⟩
 match v, hv with
 | 0, _ => rfl
 | 1, _ => rfl
 | 2, _ => rfl
theorem OwnBB.no (h : OwnBB W G f) : ∀ o q, W.cell? ⟨G, o, none⟩ ≠ some (.int .i64 q) := fun o q e => by
 have := Cel.cell h o;rw [e] at this
 match o with
 | 0 => simp at this
 | 1 => simp at this
 | 2 => simp at this
 | o + 3 => simp at this
theorem OwnBB.set (h : OwnBB W G f) {u : Nat} (hu : u < 3) (x : Bool) : OwnBB (W.setCell ⟨G, u, none⟩ (.bool x)) G (fun v => if v = u then x else f v) := by
 have := Cel.set h u (.bool x);unfold OwnBB
 match u, hu with
 | 0, _ => simpa using this
 | 1, _ => simpa using this
 | 2, _ => simpa using this
theorem OwnBB.ext {g : Nat -> Bool} (h : OwnBB W G f) (e : ∀ v, v < 3 -> f v = g v) : OwnBB W G g := by
 unfold OwnBB at *;rw [<- e 0 (by omega), <- e 1 (by omega), <- e 2 (by omega)]; exact h
theorem OwnBB.below {W' : World} (h : OwnBB W G f) (b : Below W.heap.size W W') : OwnBB W' G f := Cel.below h b
theorem imarkpots_any {cG : Nat} {r : Nat -> Bool} {ad : Option Addr} {N cap : Nat} (fs : List Frm) (w : World) (hO : OwnBB w G r) (hN : fs.length = N) (hF : FormsAt w ad fs) (hfit : ∀ k, k < N -> fitX 10000000 (fs[k]?.getD ([], [], 0))) (hN1 : N <= 1048576) :
  Calls Tryz.prog 96 #[.slice (some ⟨G, 0, none⟩) 3 cG, .slice ad N cap] w fun e w' => (∃ v, e = .returned v) /\ Touch (fun k => k = G) w w' /\ OwnBB w' G (readsF r fs) := by
 have HN : Hid (fs.length = N) := hN;have HF : Hid (FormsAt w ad fs) := hF;have HFT : Hid _ := hfit;have HO : Hid (OwnBB w G r) := hO;have lG0 := Cel.lt hO;clear hN hF hfit hO
 go_enter Tryz.func96, Tryz.ntmps96
 go_wp2_with fail
 go_loopw [5, 6, 7, 10] (fun _ _ _ i wr => ∃ k : Nat, k <= N /\ i = .int .i64 k /\ Touch (fun k => k = G) w wr /\ OwnBB wr G (readsF r (fs.take k))) (fun _ _ _ i _ => N - (intOf i).toNat)
 case atStart => exact ⟨0, Nat.zero_le _, rfl, Touch.refl _ _, HO.out.ext (fun v _ => by simp [readsF])⟩
 case round =>
  obtain ⟨k, hk, rfl, ht, o⟩ := hrel
  by_cases hlt : k < N
  ·have hlt' : (k : Int) < N := by omega
   have hkl : k < fs.length := by rw [HN.out]; exact hlt
   have HS : Hid (∀ v, readsF r (fs.take (k + 1)) v = (readsF r (fs.take k) v || hasP (fs[k]?.getD ([], [], 0)) v)) := fun v => readsF_snoc r fs k hkl v;have hfit := HFT.out k hlt;obtain ⟨b, off, rfl, a', c', ca, cc, c0, c1, c2, iC, iD⟩ := (HF.out.past2 HO.out.no ht) k hkl;generalize fs[k]?.getD ([], [], 0) = q at *;obtain ⟨qC, qD, qK⟩ := q;simp only at c2 iC iD;have A : Below wr.heap.size wr (wr.alloc (.cells #[.slice a' 3 ca, .slice c' 2 cc, .int .i64 qK] 81)) := bal;have HIC : Hid (Ints (wr.alloc (.cells #[.slice a' 3 ca, .slice c' 2 cc, .int .i64 qK] 81)) a' 3 qC) := iC.below A;have oA := o.below A;have HNO : Hid _ := oA.no;have o' : OwnBB (wr.alloc (.cells #[.slice a' 3 ca, .slice c' 2 cc, .int .i64 qK] 81)) G (fun v => if v < 0 then readsF r (fs.take (k + 1)) v else readsF r (fs.take k) v) := oA.ext (fun v hv => by simp);have tA : Touch (fun k => k = G) w (wr.alloc (.cells #[.slice a' 3 ca, .slice c' 2 cc, .int .i64 qK] 81)) := ht.trans (Touch.of A);have HTA : Hid _ := tA;clear o iC iD oA tA A ht
   go_wp2_with fail
   obtain ⟨W1, hW1⟩ : ∃ W1, W1 = wr.alloc (.cells #[.slice a' 3 ca, .slice c' 2 cc, .int .i64 qK] 81) := ⟨_, rfl⟩
   rw [<- hW1] at HIC HNO o' HTA ⊢;clear hW1 c0 c1 c2
   go_loopw [6, 7, 17] (fun _ _ v w2 => ∃ u : Nat, u <= 3 /\ v = .int .i64 u /\ Touch (fun k => k = G) W1 w2 /\ OwnBB w2 G (fun v => if v < u then readsF r (fs.take (k + 1)) v else readsF r (fs.take k) v)) (fun _ _ v _ => 3 - (intOf v).toNat)
   case atStart => exact ⟨0, by omega, rfl, Touch.refl _ _, o'⟩
   case round =>
    clear o';obtain ⟨u, hu, rfl, t, o⟩ := hrel
    by_cases hu3 : u < 3
    ·have hu' : (u : Int) < 3 := by omega
     obtain ⟨cb, co, rfl, cv⟩ := (HIC.out.past HNO.out t).2 u hu3;have hval : qC.getD u 0 = qC[u]?.getD 0 := by rw [List.getD_eq_getElem?_getD]
     rw [hval] at cv;have HH : Hid (hasP (qC, qD, qK) u = (qC[u]?.getD 0 != 0)) := rfl;generalize qC[u]?.getD 0 = z at *;obtain ⟨g0, fz⟩ := o.at hu3;rw [if_neg (Nat.lt_irrefl u)] at g0;obtain ⟨bo, hbo⟩ : ∃ bo, bo = readsF r (fs.take k) u := ⟨_, rfl⟩
     have HBO : Hid _ := hbo;rw [<- hbo] at g0;have o2 := o.set hu3 (bo || (z != 0))
     have O2 : Hid (OwnBB (wr.setCell ⟨G, u, none⟩ (.bool (bo || (z != 0)))) G (fun v => if v < u + 1 then readsF r (fs.take (k + 1)) v else readsF r (fs.take k) v)) := o2.ext (fun v hv => by
      by_cases e : v = u
      ·subst e; simp only [if_true, Nat.lt_succ_self]; rw [HS.out, HH.out, HBO.out]
      simp only [e, if_false]
      by_cases e2 : v < u
      ·rw [if_pos e2, if_pos (by omega)]
      rw [if_neg e2, if_neg (by omega)])
     have T2 : Touch (fun k => k = G) W1 (wr.setCell ⟨G, u, none⟩ (.bool (bo || (z != 0)))) := t.setCell (B := G) rfl _;clear o2 o hbo t
     cases bo with
     | true =>
      simp only [Bool.true_or] at O2 T2
      go_wp2
      go_roundw
      case rel => exact ⟨u + 1, by omega, by go_num, T2, O2.out⟩
      case measure => simp [intOf]; omega
     | false =>
      simp only [Bool.false_or] at O2 T2
      by_cases hz : z = 0
      ·have hz' : (z != 0) = false := by simp [hz]
       rw [hz'] at O2 T2
       go_wp2
       go_roundw
       case rel => exact ⟨u + 1, by omega, by go_num, T2, O2.out⟩
       case measure => simp [intOf]; omega
      have hz' : (z != 0) = true := by simp [hz]
      rw [hz'] at O2 T2
      go_wp2
      go_roundw
      case rel => exact ⟨u + 1, by omega, by go_num, T2, O2.out⟩
      case measure => simp [intOf]; omega
    obtain rfl : u = 3 := by omega
    have O3 : Hid (OwnBB wr G (readsF r (fs.take (k + 1)))) := o.ext (fun v hv => by simp only [hv, if_true]);have T3 := HTA.out.trans t;clear o t
    go_wp2
    go_roundw
    case rel => exact ⟨k + 1, by omega, by go_num, T3, O3.out⟩
    case measure => simp [intOf]; omega
  obtain rfl : k = N := by omega
  have O3 : OwnBB wr G (readsF r fs) := by
   have : fs.take k = fs := List.take_of_length_le (by rw [HN.out]; exact Nat.le_refl _);rw [this] at o; exact o
  go_wp2
  go_end0
  exact ⟨⟨_, rfl⟩, ht, O3⟩
def Loose (o : Option Obj) : Prop := ∀ cs t fr, o = some (.cells cs t fr) -> (t = 4 \/ t = 68 \/ t = 83) /\ ∀ (i : Nat) q, cs[i]? ≠ some (.int .i64 q)
def KpR (X Y : World) : Prop := Touch (fun k => Loose X.heap[k]?) X Y
theorem KpR.refl (X : World) : KpR X X := Touch.refl _ _
theorem KpR.of (h : Below X.heap.size X Y) : KpR X Y := Touch.of h
theorem KpR.trans {Z : World} (h : KpR X Y) (k : KpR Y Z) : KpR X Z :=
 ⟨k.os.trans h.os, k.tape.trans h.tape, k.output.trans h.output, Nat.le_trans h.size k.size, fun i hi hn => by
  have e := h.block i hi hn;rw [k.block i (Nat.lt_of_lt_of_le hi h.size) (fun hl => hn (by rw [e] at hl; exact hl))]
  exact e⟩
theorem KpR.loop (X : World) (l : Nat) (r r' : Loop) (h : X.heap[l]? = some (.loop r)) : KpR X (X.putObj l (.loop r')) := by
 refine ⟨rfl, rfl, rfl, by simp [World.putObj], fun k hk hn => ?_⟩
 by_cases e : k = l
 ·subst e
  exact absurd (fun cs t fr hh => by rw [h] at hh; cases hh) hn
 exact World.putObj_heap_other e
theorem not_loose {b o : Nat} {q : Int} (h : X.cell? ⟨b, o, none⟩ = some (.int .i64 q)) : ¬ Loose X.heap[b]? := fun hl => by
 simp only [World.cell?] at h
 split at h
 ·rename_i c t fr hh
  have := (hl _ _ _ hh).2 o q;simp at h
  exact this (by simpa using h)
 cases h
theorem Ints.keepR {a : Option Addr} {n : Nat} {zs : List Int} (h : Ints X a n zs) (k : KpR X Y) : Ints Y a n zs := by
 refine ⟨h.1, fun i hi => ?_⟩;obtain ⟨b, off, e, hc⟩ := h.2 i hi;refine ⟨b, off, e, ?_⟩;rw [World.cell?_of_block (k.block b (block_lt hc) (not_loose hc))]; exact hc
theorem FormsAt.keepR {a : Option Addr} {fs : List Frm} (h : FormsAt X a fs) (k : KpR X Y) : FormsAt Y a fs := fun i hi => by
 obtain ⟨b, off, e, a', c', ca, cc, c0, c1, c2, iC, iD⟩ := h i hi;have hb := k.block b (block_lt c0) (not_loose c2)
 exact ⟨b, off, e, a', c', ca, cc, by rw [World.cell?_of_block hb]; exact c0, by rw [World.cell?_of_block hb]; exact c1, by rw [World.cell?_of_block hb]; exact c2, iC.keepR k, iD.keepR k⟩
theorem Cel.keepR {B : Nat} {vs : List Value} {t : TypeId} (h : Cel X B vs t) (k : KpR X Y) (h1 : t ≠ 4) (h2 : t ≠ 68) (h3 : t ≠ 83 := by decide) : Cel Y B vs t := by
 have hl := h.lt;unfold Cel at *;rw [k.block B hl (fun hl => by rcases (hl _ _ _ h).1 with e | e | e <;> contradiction)]; exact h
attribute [local go_sem] Oper.semAt_some
abbrev walkV (l : Nat) (sa : Option Addr) (N sc : Nat) : Value := .agg #[.slice sa N sc, .func (.yield l) #[] #[]]
def Went (J D : List RowM -> World -> Prop) (pre gs : List RowM) (b : Bool) (Y : World) : Prop := (b = true /\ J (pre ++ gs) Y) \/ (b = false /\ ∃ ms rest, gs = ms ++ rest /\ D (pre ++ ms) Y)
theorem Went.fst {J D : List RowM -> World -> Prop} {g1 g2 : List RowM} (h : Went J D pre g1 false Y) : Went J D pre (g1 ++ g2) false Y := by
 rcases h with ⟨h, _⟩ | ⟨_, ms, rest, rfl, d⟩
 ·cases h
 exact Or.inr ⟨rfl, ms, rest ++ g2, by rw [List.append_assoc], d⟩
theorem Went.snd {J D : List RowM -> World -> Prop} {g1 g2 : List RowM} {b : Bool} (h : Went J D (pre ++ g1) g2 b Y) : Went J D pre (g1 ++ g2) b Y := by
 rcases h with ⟨rfl, j⟩ | ⟨rfl, ms, rest, rfl, d⟩
 ·exact Or.inl ⟨rfl, by rw [<- List.append_assoc]; exact j⟩
 exact Or.inr ⟨rfl, g1 ++ ms, rest, by rw [List.append_assoc], by rw [<- List.append_assoc]; exact d⟩
theorem Went.on {J D : List RowM -> World -> Prop} {gs : List RowM} (h : Went J D pre gs true Y) : J (pre ++ gs) Y := by
 rcases h with ⟨_, j⟩ | ⟨h, _⟩
 ·exact j
 cases h
def RoundsD (l n₀ : Nat) (J D : List RowM -> World -> Prop) (M : Nat) : Prop := ∀ (m : Nat) (pre : List RowM) (v : Value) (r : RowM) (X : World), J pre X -> RowFit r -> RowX X n₀ v r -> pre.length < M -> YieldAt Fence.wide m Tryz.prog l #[v] X fun e Y => ∃ b : Bool, e = .returned (.bool b) /\ Went J D pre [r] b Y /\ KpR X Y
def Rounds (l n₀ : Nat) (J : List RowM -> World -> Prop) (M : Nat) : Prop := ∀ (m : Nat) (pre : List RowM) (v : Value) (r : RowM) (X : World), J pre X -> RowFit r -> RowX X n₀ v r -> pre.length < M -> YieldAt Fence.wide m Tryz.prog l #[v] X fun e Y => e = .returned (.bool true) /\ J (pre ++ [r]) Y /\ KpR X Y
theorem Rounds.noD {l n₀ : Nat} {J : List RowM -> World -> Prop} {M : Nat} (h : Rounds l n₀ J M) : RoundsD l n₀ J (fun _ _ => False) M := fun m pre v r X a b c d => by
 obtain ⟨fn, tmps, assign, body, hy, hR⟩ := h m pre v r X a b c d
 exact ⟨fn, tmps, assign, body, hy, hR.mono (fun e Y ⟨e1, e2, e3⟩ => ⟨true, e1, Or.inl ⟨rfl, e2⟩, e3⟩)⟩
theorem from_end (l n₀ : Nat) (J D : List RowM -> World -> Prop) (hJ : ∀ pre X Y, J pre X -> Below X.heap.size X Y -> J pre Y) (M : Nat) (hY : RoundsD l n₀ J D M) (sa : Option Addr) (N sc : Nat) (i0 : Nat) (hi : N <= i0) (hi1 : i0 <= 12) (y : Way) (pa : Option Addr) (cp : Nat) (ga : Option Addr) (ng gc : Nat) (ta : Option Addr) (nt tc : Nat) (st : Bool) (q : RowM) (pre : List RowM) (W : World) (n : Nat) (hn0 : n₀ <= W.heap.size) (h0 : J pre W) (hq : RowFit q) (hM : pre.length < M)
  (hrow : ∀ X, Below W.heap.size W X -> Calls Tryz.prog 114 #[wayV ga ng gc pa cp ta nt tc st] X fun e X' => ∃ v, e = .returned v /\ Below X.heap.size X X' /\ RowX X' X.heap.size v q) :
  CallsIn Fence.wide n Tryz.prog 95 #[walkV l sa N sc, .int .i64 (i0 : Int), wayV ga ng gc pa cp ta nt tc st] W fun e W' => ∃ b : Bool, e = .returned (.bool b) /\ Went J D pre [q] b W' /\ KpR W W' := by
 have hge : (N : Int) <= i0 := by omega
 have A : Below W.heap.size W ((W.alloc (.cells #[.slice sa N sc, .func (.yield l) #[] #[]] 135)).alloc (.cells #[.slice ga ng gc, .slice pa 3 cp, .slice ta nt tc, .bool st] 138)) := (bal).alloc (by simp) _;have x0 := (Cel.new W [.slice sa N sc, .func (.yield l) #[] #[]] 135).alloc (.cells #[.slice ga ng gc, .slice pa 3 cp, .slice ta nt tc, .bool st] 138);have y0 := Cel.new (W.alloc (.cells #[.slice sa N sc, .func (.yield l) #[] #[]] 135)) [.slice ga ng gc, .slice pa 3 cp, .slice ta nt tc, .bool st] 138;rw [qA] at y0;refine callsIn_of_wp Tryz.func95 rfl trivial ?_ rfl;simp only [Tryz.ntmps95, qN, qL, qM, Nat.reduceAdd, Nat.reduceSub, Array.replicate_succ, Array.replicate_zero, List.push_toArray, List.append_toArray, List.nil_append, List.cons_append]
 gi_wp2_with fail
 obtain ⟨W0, hW0⟩ : ∃ W0, W0 = (W.alloc (.cells #[.slice sa N sc, .func (.yield l) #[] #[]] 135)).alloc (.cells #[.slice ga ng gc, .slice pa 3 cp, .slice ta nt tc, .bool st] 138) := ⟨_, rfl⟩
 rw [<- hW0] at A x0 y0 ⊢;clear hW0
 have KP : Hid (∀ X, KpR W0 X -> ((X.cell? ⟨W.heap.size, 0, none⟩ = some (.slice sa N sc) /\ X.cell? ⟨W.heap.size, 1, none⟩ = some (.func (.yield l) #[] #[])) /\ (X.cell? ⟨W.heap.size + 1, 0, none⟩ = some (.slice ga ng gc) /\ X.cell? ⟨W.heap.size + 1, 1, none⟩ = some (.slice pa 3 cp) /\ X.cell? ⟨W.heap.size + 1, 2, none⟩ = some (.slice ta nt tc) /\ X.cell? ⟨W.heap.size + 1, 3, none⟩ = some (.bool st)))) := fun X hX => by
  have a1 := x0.keepR hX (by decide) (by decide);have a2 := y0.keepR hX (by decide) (by decide)
  exact ⟨⟨a1.cell 0, a1.cell 1⟩, a2.four⟩
 have e0 : Below W0.heap.size W0 W0.drew := (Below.refl _ _).drew;have hSS := KP.out _ (KpR.of e0);refine wpIn_region_S (fun w' => (w'.cell? ⟨W.heap.size, 0, none⟩ = some (.slice sa N sc) /\ w'.cell? ⟨W.heap.size, 1, none⟩ = some (.func (.yield l) #[] #[])) /\ (w'.cell? ⟨W.heap.size + 1, 0, none⟩ = some (.slice ga ng gc) /\ w'.cell? ⟨W.heap.size + 1, 1, none⟩ = some (.slice pa 3 cp) /\ w'.cell? ⟨W.heap.size + 1, 2, none⟩ = some (.slice ta nt tc) /\ w'.cell? ⟨W.heap.size + 1, 3, none⟩ = some (.bool st))) (by kernel_rfl) ?_;refine tks 0 rfl rfl hSS ?_;refine tks 1 rfl rfl hSS ?_;refine tks 2 rfl rfl hSS ?_;clear hSS;refine wpAnyS_one (i := 3) (by kernel_rfl) rfl (fun K hK => ?_);go_simp;refine ⟨trivial, fun h => by simp [Fence.wide] at h, (callsIn_wide.2 (hrow _ (btr A e0))).mono ?_⟩;rintro e w1 ⟨v, rfl, bd1, rx⟩;have b1 : Below W0.heap.size W0 w1 := below_of_drew bd1;have hS1 := KP.out _ (KpR.of b1);have J1 := hJ _ _ _ h0 (btr A b1);have sA := A.size
 have rx' : RowX w1 n₀ v q := by
  obtain ⟨ga', gc', aa, ac, ta', tc', e, f0, f1, f2⟩ := rx;have hs : n₀ <= W0.drew.heap.size := by show n₀ <= W0.heap.size; omega
  exact ⟨ga', gc', aa, ac, ta', tc', e, f0.mono (fun k hk => by omega), f1.mono (fun k hk => by omega), f2.mono (fun k hk => by omega)⟩
 (try dsimp only);refine hK.out _ _ hS1 ?_;clear hK K bd1 rx;obtain ⟨fn, tmps, assign, body, hy, hR⟩ := hY (n - 1) pre v q w1 J1 hq rx' hM;refine wpAnyS_one (i := 4) (by kernel_rfl) rfl (fun K hK => ?_);go_simp;refine ⟨fun h => by simp [Fence.wide] at h, hR.mono ?_⟩;rintro e w2 ⟨b2, rfl, J2, k2⟩;have K2 := (KpR.of b1).trans k2;have hS2 := KP.out _ K2;(try dsimp only);refine hK.out _ _ hS2 ?_;clear hK K hR hy;refine wpAnyS_one (i := 5) (by kernel_rfl) rfl (fun K hK => ?_);go_simp;refine hK.out _ _ hS2 ?_;refine wpAnyS_done (by kernel_rfl) ?_ _;have KK := (KpR.of A).trans K2;clear KP hS1 hS2 x0 y0
 gi_wp2
 go_ret
 exact ⟨b2, rfl, J2, KK⟩
attribute [local go_sem] Oper.semAt_some
abbrev goV (l : Nat) (sa : Option Addr) (N sc : Nat) : Value := .func (.func 95) #[walkV l sa N sc] #[]
def GoesOn (l : Nat) (sa : Option Addr) (N sc : Nat) (i : Int) (v : Value) (J : Bool -> World -> Prop) (X : World) : Prop := ∀ m, CallsIn Fence.wide m Tryz.prog 95 #[walkV l sa N sc, .int .i64 i, v] X fun e Y => ∃ b : Bool, e = .returned (.bool b) /\ J b Y /\ KpR X Y
theorem is_test_test (v : Value) (w : World) : (Instr.typeAssert (.iface 156 v) 149 156 true).run Tryz.prog w = .ok (.tuple #[v, .bool true]) w := by kernel_rfl
theorem is_add_test (v : Value) (w : World) : (Instr.typeAssert (.iface 158 v) 149 156 true).run Tryz.prog w = .ok (.tuple #[.agg #[.int .i64 0, .slice none 0 0, .slice none 0 0, .int .i64 0], .bool false]) w := by kernel_rfl
theorem is_add_add (v : Value) (w : World) : (Instr.typeAssert (.iface 158 v) 149 158 true).run Tryz.prog w = .ok (.tuple #[v, .bool true]) w := by kernel_rfl
theorem is_add_print (v : Value) (w : World) : (Instr.typeAssert (.iface 158 v) 149 160 true).run Tryz.prog w = .ok (.tuple #[.agg #[.slice none 0 0, .slice none 0 0, .int .i64 0], .bool false]) w := by kernel_rfl
theorem is_print_test (v : Value) (w : World) : (Instr.typeAssert (.iface 160 v) 149 156 true).run Tryz.prog w = .ok (.tuple #[.agg #[.int .i64 0, .slice none 0 0, .slice none 0 0, .int .i64 0], .bool false]) w := by kernel_rfl
theorem is_print_add (v : Value) (w : World) : (Instr.typeAssert (.iface 160 v) 149 158 true).run Tryz.prog w = .ok (.tuple #[.agg #[.int .i64 0, .slice none 0 0, .slice none 0 0, .int .i64 0], .bool false]) w := by kernel_rfl
theorem is_print_print (v : Value) (w : World) : (Instr.typeAssert (.iface 160 v) 149 160 true).run Tryz.prog w = .ok (.tuple #[v, .bool true]) w := by kernel_rfl
theorem is_stop_test (v : Value) (w : World) : (Instr.typeAssert (.iface 162 v) 149 156 true).run Tryz.prog w = .ok (.tuple #[.agg #[.int .i64 0, .slice none 0 0, .slice none 0 0, .int .i64 0], .bool false]) w := by kernel_rfl
theorem is_stop_add (v : Value) (w : World) : (Instr.typeAssert (.iface 162 v) 149 158 true).run Tryz.prog w = .ok (.tuple #[.agg #[.int .i64 0, .slice none 0 0, .slice none 0 0, .int .i64 0], .bool false]) w := by kernel_rfl
theorem is_stop_print (v : Value) (w : World) : (Instr.typeAssert (.iface 162 v) 149 160 true).run Tryz.prog w = .ok (.tuple #[.agg #[.slice none 0 0, .slice none 0 0, .int .i64 0], .bool false]) w := by kernel_rfl
theorem past_stop (l : Nat) {sa : Option Addr} (N sc : Nat) {nx : Int} (ga : Option Addr) (ng gc : Nat) (pa : Option Addr) (cp : Nat) (ta : Option Addr) (nt tc : Nat) {J : Bool -> World -> Prop} (W : World) (n : Nat)
  (hgo : ∀ X, Below W.heap.size W X -> GoesOn l sa N sc 6 (wayV ga ng gc pa cp ta nt tc true) J X) :
  CallsIn Fence.wide n Tryz.prog 115 #[wayV ga ng gc pa cp ta nt tc false, .iface 162 (.agg #[]), .int .i64 nx, goV l sa N sc] W fun e Y => ∃ b : Bool, e = .returned (.bool b) /\ J b Y /\ KpR W Y := by
 have hdd : ∀ k : Nat, (Fence.wide.depth.isSome = true -> 1 <= k) := fun k h => by simp [Fence.wide] at h
 refine callsIn_of_wp Tryz.func115 rfl trivial ?_ rfl;simp only [Tryz.ntmps115, qN, qL, qM, Nat.reduceAdd, Nat.reduceSub, Array.replicate_succ, Array.replicate_zero, List.push_toArray, List.append_toArray, List.nil_append, List.cons_append];have t1 := is_stop_test;have t2 := is_stop_add;have t3 := is_stop_print;have A : Below W.heap.size W (W.alloc (.cells #[.slice ga ng gc, .slice pa 3 cp, .slice ta nt tc, .bool true] 138)) := bal;have hc := hgo _ A
 gi_wp2_with fail
 refine ⟨trivial, hdd _, (hc _).mono ?_⟩;rintro e w1 ⟨z1, rfl, j1, k1⟩;have kk := (KpR.of A).trans k1;clear hc
 gi_wp2
 go_ret
 exact ⟨z1, rfl, j1, kk⟩
theorem past_print (l : Nat) {sa : Option Addr} (N sc : Nat) {nx : Int} (i : Nat) (y : Way) (hy : WayOk i y) (h6 : i <= 5) (g : FV) (hs : smallB g.n g.m g.C g.D g.K = true) (ga : Option Addr) (ng gc : Nat) (pa : Option Addr) (cp : Nat) (ta : Option Addr) (nt tc : Nat) {J : Bool -> World -> Prop} (W : World) (n : Nat) (hA : g.At W) (hP : FormsAt W pa y.pots) (hT : FormsAt W ta y.tells) (htl : y.tells.length = nt)
  (hgo : ∀ X ta' tc', Below W.heap.size W X -> FormsAt X ta' (y.tells ++ [intoX g y.pots]) -> GoesOn l sa N sc nx (wayV ga ng gc pa cp ta' (nt + 1) tc' false) J X) :
  CallsIn Fence.wide n Tryz.prog 115 #[wayV ga ng gc pa cp ta nt tc false, .iface 160 (.agg #[.slice g.a g.n g.cap, .slice g.c g.m g.cap', .int .i64 g.K]), .int .i64 nx, goV l sa N sc] W fun e Y => ∃ b : Bool, e = .returned (.bool b) /\ J b Y /\ KpR W Y := by
 have hdd : ∀ k : Nat, (Fence.wide.depth.isSome = true -> 1 <= k) := fun k h => by simp [Fence.wide] at h
 obtain ⟨fit1, fit2, -⟩ := hy.into (by omega) (f := g) hs hA.D.1;have HF1 : Hid _ := fit1;have HF2 : Hid _ := fit2;have HY : Hid (WayOk i y) := hy;have HTL : Hid (y.tells.length = nt) := htl;have nt1 : nt <= 100 := by have := hy.tl; omega
 obtain ⟨FX, hFX⟩ : ∃ FX, FX = intoX g y.pots := ⟨_, rfl⟩
 have HFX : Hid (intoX g y.pots = FX) := hFX.symm;have lXC := fit2.c;have lXD := fit2.d;rw [<- hFX] at lXC lXD;clear fit1 fit2 hy htl hFX;have A0 : Below W.heap.size W ((W.alloc (.cells #[.slice ga ng gc, .slice pa 3 cp, .slice ta nt tc, .bool false] 138)).alloc (.cells #[.slice g.a g.n g.cap, .slice g.c g.m g.cap', .int .i64 g.K] 160)) := (bal).alloc (by simp) _;have x0 := (Cel.new W [.slice ga ng gc, .slice pa 3 cp, .slice ta nt tc, .bool false] 138).alloc (.cells #[.slice g.a g.n g.cap, .slice g.c g.m g.cap', .int .i64 g.K] 160);have y0 := Cel.new (W.alloc (.cells #[.slice ga ng gc, .slice pa 3 cp, .slice ta nt tc, .bool false] 138)) [.slice g.a g.n g.cap, .slice g.c g.m g.cap', .int .i64 g.K] 160;rw [qA] at y0;have t0 := is_print_test;have t1 := is_print_add;have t2 := is_print_print;refine callsIn_of_wp Tryz.func115 rfl trivial ?_ rfl;simp only [Tryz.ntmps115, qN, qL, qM, Nat.reduceAdd, Nat.reduceSub, Array.replicate_succ, Array.replicate_zero, List.push_toArray, List.append_toArray, List.nil_append, List.cons_append]
 gi_wp2_with fail
 obtain ⟨W0, hW0⟩ : ∃ W0, W0 = (W.alloc (.cells #[.slice ga ng gc, .slice pa 3 cp, .slice ta nt tc, .bool false] 138)).alloc (.cells #[.slice g.a g.n g.cap, .slice g.c g.m g.cap', .int .i64 g.K] 160) := ⟨_, rfl⟩
 rw [<- hW0] at A0 x0 y0 ⊢;clear hW0;have KA : Hid (∀ X, KpR W0 X -> Cel X W.heap.size [.slice ga ng gc, .slice pa 3 cp, .slice ta nt tc, .bool false] 138) := fun X hX => x0.keepR hX (by decide) (by decide);have KB : Hid (∀ X, KpR W0 X -> Cel X (W.heap.size + 1) [.slice g.a g.n g.cap, .slice g.c g.m g.cap', .int .i64 g.K] 160) := fun X hX => y0.keepR hX (by decide) (by decide);have KP : Hid (∀ X, KpR W0 X -> ((X.cell? ⟨W.heap.size, 0, none⟩ = some (.slice ga ng gc) /\ X.cell? ⟨W.heap.size, 1, none⟩ = some (.slice pa 3 cp) /\ X.cell? ⟨W.heap.size, 2, none⟩ = some (.slice ta nt tc) /\ X.cell? ⟨W.heap.size, 3, none⟩ = some (.bool false)) /\ (X.cell? ⟨W.heap.size + 1, 0, none⟩ = some (.slice g.a g.n g.cap) /\ X.cell? ⟨W.heap.size + 1, 1, none⟩ = some (.slice g.c g.m g.cap') /\ X.cell? ⟨W.heap.size + 1, 2, none⟩ = some (.int .i64 g.K)))) := fun X hX => ⟨(KA.out X hX).four, (KB.out X hX).cell 0, (KB.out X hX).cell 1, (KB.out X hX).cell 2⟩
 have e0 : Below W0.heap.size W0 W0.drew := (Below.refl _ _).drew;have hSS := KP.out _ (KpR.of e0);refine wpIn_region_S (fun w' => (w'.cell? ⟨W.heap.size, 0, none⟩ = some (.slice ga ng gc) /\ w'.cell? ⟨W.heap.size, 1, none⟩ = some (.slice pa 3 cp) /\ w'.cell? ⟨W.heap.size, 2, none⟩ = some (.slice ta nt tc) /\ w'.cell? ⟨W.heap.size, 3, none⟩ = some (.bool false)) /\ (w'.cell? ⟨W.heap.size + 1, 0, none⟩ = some (.slice g.a g.n g.cap) /\ w'.cell? ⟨W.heap.size + 1, 1, none⟩ = some (.slice g.c g.m g.cap') /\ w'.cell? ⟨W.heap.size + 1, 2, none⟩ = some (.int .i64 g.K))) (by kernel_rfl) ?_;refine tks 0 rfl rfl hSS ?_;refine tks 1 rfl rfl hSS ?_;refine tks 2 rfl rfl hSS ?_;refine tks 3 rfl rfl hSS ?_;refine tks 4 rfl rfl hSS ?_;refine tks 5 rfl rfl hSS ?_;refine tks 6 rfl rfl hSS ?_;clear hSS;refine wpAnyS_one (i := 7) (by kernel_rfl) rfl (fun K hK => ?_);go_simp;refine ⟨trivial, hdd _, (callsIn_wide.2 (iintoW_any HY.out (by omega) g hs (hA.below (btr A0 e0)) (hP.keep (btr A0 e0)))).mono ?_⟩;rintro e w1 ⟨B1, B2, c1, c2, rfl, bd1, y1, y2, y3, k1, k2⟩;rw [HFX.out] at k1 k2 ⊢;have b1 : Below W0.heap.size W0 w1 := below_of_drew bd1;have E1 := btr A0 b1;clear bd1 y1 y2 y3;(try dsimp only);refine hK.out _ _ (KP.out _ (KpR.of b1)) ?_;refine wpAnyS_one (i := 8) (by kernel_rfl) rfl (fun K hK => ?_);go_simp;refine ⟨trivial, hdd _, (callsIn_wide.2 (itell_any FX y.tells HTL.out nt1 (hT.keep E1) (k1.ints' lXC) (k2.ints' lXD))).mono ?_⟩;rintro e w2 ⟨G, cG, rfl, b2', F2⟩;have b2 := btr b1 b2'
 have E2 := btr A0 b2;have HG2 : Hid _ := hgo w2 _ cG E2 (by rw [HFX.out]; exact F2);clear k1 k2;(try dsimp only);refine hK.out _ _ (KP.out _ (KpR.of b2)) ?_;refine wpAnyS_one (i := 9) (by kernel_rfl) rfl (fun K hK => ?_);go_simp;refine ⟨trivial, hdd _, (HG2.out _).mono ?_⟩;rintro e w3 ⟨z3, rfl, j3, k3⟩;have K3 := (KpR.of b2).trans k3;have KK := (KpR.of A0).trans K3;(try dsimp only);refine hK.out _ _ (KP.out _ K3) ?_;refine wpAnyS_one (i := 10) (by kernel_rfl) rfl (fun K hK => ?_);go_simp;refine hK.out _ _ (KP.out _ K3) ?_;refine wpAnyS_done (by kernel_rfl) ?_ _;clear KP KA KB x0 y0 HG2
 gi_wp2
 go_ret
 exact ⟨z3, rfl, j3, KK⟩
theorem past_add (l : Nat) {sa : Option Addr} (N sc : Nat) {nx : Int} (i : Nat) (y : Way) (hy : WayOk i y) (h6 : i <= 5) (g : FV) (hs : smallB g.n g.m g.C g.D g.K = true) (ga : Option Addr) (ng gc : Nat) (pa : Option Addr) (cp : Nat) (ta : Option Addr) (nt tc : Nat) {J : Bool -> World -> Prop} (W : World) (n : Nat) (hA : g.At W) (hP : FormsAt W pa y.pots) (hT : FormsAt W ta y.tells) (htl : y.tells.length = nt)
  (p : Nat) (hp : p < 3) (hgo : ∀ X pa' cp', Below W.heap.size W X -> FormsAt X pa' (y.add p (intoX g y.pots)).pots -> GoesOn l sa N sc nx (wayV ga ng gc pa' cp' ta nt tc false) J X) :
  CallsIn Fence.wide n Tryz.prog 115 #[wayV ga ng gc pa cp ta nt tc false, .iface 158 (.agg #[.int .i64 (p : Int), .slice g.a g.n g.cap, .slice g.c g.m g.cap', .int .i64 g.K]), .int .i64 nx, goV l sa N sc] W fun e Y => ∃ b : Bool, e = .returned (.bool b) /\ J b Y /\ KpR W Y := by
 have hdd : ∀ k : Nat, (Fence.wide.depth.isSome = true -> 1 <= k) := fun k h => by simp [Fence.wide] at h
 obtain ⟨fit1, fit2, -⟩ := hy.into (by omega) (f := g) hs hA.D.1;have HF1 : Hid _ := fit1;have HF2 : Hid _ := fit2;have HY : Hid (WayOk i y) := hy;have HTL : Hid (y.tells.length = nt) := htl;have nt1 : nt <= 100 := by have := hy.tl; omega
 obtain ⟨FX, hFX⟩ : ∃ FX, FX = intoX g y.pots := ⟨_, rfl⟩
 have HFX : Hid (intoX g y.pots = FX) := hFX.symm;have lXC := fit2.c;have lXD := fit2.d;rw [<- hFX] at lXC lXD;have hw := wb_pos i;have hw6 := wb_six (n := i) (by omega);have hq := hy.pf p hp;rw [show min i 6 = i by omega] at hq;have HQ1 : Hid (fitX 10000000 (y.pots[p]?.getD noX)) := hq.mono (by omega);have HQ3 : Hid (fitX 10000000 (plusX (y.pots[p]?.getD noX) (intoX g y.pots))) := (plusX_fit hq fit1).mono (by omega);clear fit1 fit2 hy htl hFX hq;have A0 : Below W.heap.size W ((W.alloc (.cells #[.slice ga ng gc, .slice pa 3 cp, .slice ta nt tc, .bool false] 138)).alloc (.cells #[.int .i64 (p : Int), .slice g.a g.n g.cap, .slice g.c g.m g.cap', .int .i64 g.K] 158)) := (bal).alloc (by simp) _;have x0 := (Cel.new W [.slice ga ng gc, .slice pa 3 cp, .slice ta nt tc, .bool false] 138).alloc (.cells #[.int .i64 (p : Int), .slice g.a g.n g.cap, .slice g.c g.m g.cap', .int .i64 g.K] 158);have y0 := Cel.new (W.alloc (.cells #[.slice ga ng gc, .slice pa 3 cp, .slice ta nt tc, .bool false] 138)) [.int .i64 (p : Int), .slice g.a g.n g.cap, .slice g.c g.m g.cap', .int .i64 g.K] 158;rw [qA] at y0;have t0 := is_add_test;have t1 := is_add_add;have t2 := is_add_print;refine callsIn_of_wp Tryz.func115 rfl trivial ?_ rfl;simp only [Tryz.ntmps115, qN, qL, qM, Nat.reduceAdd, Nat.reduceSub, Array.replicate_succ, Array.replicate_zero, List.push_toArray, List.append_toArray, List.nil_append, List.cons_append]
 gi_wp2_with fail
 obtain ⟨W0, hW0⟩ : ∃ W0, W0 = (W.alloc (.cells #[.slice ga ng gc, .slice pa 3 cp, .slice ta nt tc, .bool false] 138)).alloc (.cells #[.int .i64 (p : Int), .slice g.a g.n g.cap, .slice g.c g.m g.cap', .int .i64 g.K] 158) := ⟨_, rfl⟩
 rw [<- hW0] at A0 x0 y0 ⊢;clear hW0;have KA : Hid (∀ X, KpR W0 X -> Cel X W.heap.size [.slice ga ng gc, .slice pa 3 cp, .slice ta nt tc, .bool false] 138) := fun X hX => x0.keepR hX (by decide) (by decide);have KB : Hid (∀ X, KpR W0 X -> Cel X (W.heap.size + 1) [.int .i64 (p : Int), .slice g.a g.n g.cap, .slice g.c g.m g.cap', .int .i64 g.K] 158) := fun X hX => y0.keepR hX (by decide) (by decide);have KP : Hid (∀ X, KpR W0 X -> ((X.cell? ⟨W.heap.size, 0, none⟩ = some (.slice ga ng gc) /\ X.cell? ⟨W.heap.size, 1, none⟩ = some (.slice pa 3 cp) /\ X.cell? ⟨W.heap.size, 2, none⟩ = some (.slice ta nt tc) /\ X.cell? ⟨W.heap.size, 3, none⟩ = some (.bool false)) /\ (X.cell? ⟨W.heap.size + 1, 0, none⟩ = some (.int .i64 (p : Int)) /\ X.cell? ⟨W.heap.size + 1, 1, none⟩ = some (.slice g.a g.n g.cap) /\ X.cell? ⟨W.heap.size + 1, 2, none⟩ = some (.slice g.c g.m g.cap') /\ X.cell? ⟨W.heap.size + 1, 3, none⟩ = some (.int .i64 g.K)))) := fun X hX => ⟨(KA.out X hX).four, (KB.out X hX).cell 0, (KB.out X hX).cell 1, (KB.out X hX).cell 2, (KB.out X hX).cell 3⟩
 have e0 : Below W0.heap.size W0 W0.drew := (Below.refl _ _).drew;have hSS := KP.out _ (KpR.of e0);refine wpIn_region_S (fun w' => (w'.cell? ⟨W.heap.size, 0, none⟩ = some (.slice ga ng gc) /\ w'.cell? ⟨W.heap.size, 1, none⟩ = some (.slice pa 3 cp) /\ w'.cell? ⟨W.heap.size, 2, none⟩ = some (.slice ta nt tc) /\ w'.cell? ⟨W.heap.size, 3, none⟩ = some (.bool false)) /\ (w'.cell? ⟨W.heap.size + 1, 0, none⟩ = some (.int .i64 (p : Int)) /\ w'.cell? ⟨W.heap.size + 1, 1, none⟩ = some (.slice g.a g.n g.cap) /\ w'.cell? ⟨W.heap.size + 1, 2, none⟩ = some (.slice g.c g.m g.cap') /\ w'.cell? ⟨W.heap.size + 1, 3, none⟩ = some (.int .i64 g.K))) (by kernel_rfl) ?_;refine tks 0 rfl rfl hSS ?_;refine tks 1 rfl rfl hSS ?_;refine tks 2 rfl rfl hSS ?_;refine tks 3 rfl rfl hSS ?_;refine tks 4 rfl rfl hSS ?_;refine tks 5 rfl rfl hSS ?_;refine tks 6 rfl rfl hSS ?_;refine tks 7 rfl rfl hSS ?_;refine tks 8 rfl rfl hSS ?_;clear hSS;refine wpAnyS_one (i := 9) (by kernel_rfl) rfl (fun K hK => ?_);go_simp;refine ⟨trivial, hdd _, (callsIn_wide.2 (iintoW_any HY.out (by omega) g hs (hA.below (btr A0 e0)) (hP.keep (btr A0 e0)))).mono ?_⟩;rintro e w1 ⟨B1, B2, c1, c2, rfl, bd1, y1, y2, y3, k1, k2⟩;rw [HFX.out] at k1 k2 ⊢;have b1 : Below W0.heap.size W0 w1 := below_of_drew bd1;have E1 := btr A0 b1;clear bd1 y1 y2 y3;(try dsimp only);refine hK.out _ _ (KP.out _ (KpR.of b1)) ?_;refine wpAnyS_one (i := 10) (by kernel_rfl) rfl (fun K hK => ?_);go_simp
 refine ⟨trivial, hdd _, (callsIn_wide.2 (iadding_any y p hp FX HY.out.pl (hP.keep E1) (k1.ints' lXC) (k2.ints' lXD) HQ1.out (by rw [<- HFX.out]; exact HF2.out) (by rw [<- HFX.out]; exact HQ3.out))).mono ?_⟩;rintro e w2 ⟨G, cG, rfl, b2', F2⟩;have b2 := btr b1 b2';have E2 := btr A0 b2;have HG2 : Hid _ := hgo w2 _ cG E2 (by rw [HFX.out]; exact F2);clear k1 k2;(try dsimp only);refine hK.out _ _ (KP.out _ (KpR.of b2)) ?_;refine wpAnyS_one (i := 11) (by kernel_rfl) rfl (fun K hK => ?_);go_simp;refine ⟨trivial, hdd _, (HG2.out _).mono ?_⟩;rintro e w3 ⟨z3, rfl, j3, k3⟩;have K3 := (KpR.of b2).trans k3;have KK := (KpR.of A0).trans K3;(try dsimp only);refine hK.out _ _ (KP.out _ K3) ?_;refine wpAnyS_one (i := 12) (by kernel_rfl) rfl (fun K hK => ?_);go_simp;refine hK.out _ _ (KP.out _ K3) ?_;refine wpAnyS_done (by kernel_rfl) ?_ _;clear KP KA KB x0 y0 HG2
 gi_wp2
 go_ret
 exact ⟨z3, rfl, j3, KK⟩
attribute [local go_sem] Oper.semAt_some
theorem not_true_ofQ {b : Bool} (h : b = false) : ¬ b = true := by rw [h]; decide
theorem past_test (l : Nat) {sa : Option Addr} (N sc : Nat) {nx : Int} (sk : Int) (hnx : 0 <= nx /\ nx <= 100) (hsk : 0 <= sk /\ sk <= 100) (i : Nat) (y : Way) (hy : WayOk i y) (h6 : i <= 5) (g : FV) (hs : smallB g.n g.m g.C g.D g.K = true) (ga : Option Addr) (ng gc : Nat) (pa : Option Addr) (cp : Nat) (ta : Option Addr) (nt tc : Nat) (J1 : Bool -> World -> Prop) {J2 : Bool -> World -> Prop} (hJ1 : ∀ X Y, J1 true X -> Below X.heap.size X Y -> J1 true Y) (hJF : ∀ Y, J1 false Y -> J2 false Y) (W : World) (n : Nat) (hA : g.At W) (hP : FormsAt W pa y.pots) (hG : FormsAt W ga y.guards) (hgl : y.guards.length = ng)
  (hgo1 : ∀ X ga' gc', Below W.heap.size W X -> FormsAt X ga' (y.guards ++ [intoX g y.pots]) -> GoesOn l sa N sc nx (wayV ga' (ng + 1) gc' pa cp ta nt tc false) J1 X)
  (hgo2 : ∀ X ga' gc', KpR W X -> J1 true X -> FormsAt X ga' (y.guards ++ [minusX (intoX g y.pots)]) -> GoesOn l sa N sc (nx + sk) (wayV ga' (ng + 1) gc' pa cp ta nt tc false) J2 X) :
  CallsIn Fence.wide n Tryz.prog 115 #[wayV ga ng gc pa cp ta nt tc false, .iface 156 (.agg #[.int .i64 sk, .slice g.a g.n g.cap, .slice g.c g.m g.cap', .int .i64 g.K]), .int .i64 nx, goV l sa N sc] W fun e Y => ∃ b : Bool, e = .returned (.bool b) /\ J2 b Y /\ KpR W Y := by
 have hdd : ∀ k : Nat, (Fence.wide.depth.isSome = true -> 1 <= k) := fun k h => by simp [Fence.wide] at h
 obtain ⟨hnx0, hnx1⟩ := hnx;obtain ⟨hsk0, hsk1⟩ := hsk;obtain ⟨-, fit2, fit3⟩ := hy.into (by omega) (f := g) hs hA.D.1;have HY : Hid (WayOk i y) := hy;have HGL : Hid (y.guards.length = ng) := hgl;have ng1 : ng <= 100 := by have := hy.gl; omega
 obtain ⟨FX, hFX⟩ : ∃ FX, FX = intoX g y.pots := ⟨_, rfl⟩
 have HFX : Hid (intoX g y.pots = FX) := hFX.symm;rw [<- hFX] at fit2 fit3 hgo1 hgo2;have lXC := fit2.c;have lXD := fit2.d;have bXC := fit2.bc;have bXD := fit2.bd;have bX1 := fit2.k1;have bX2 := fit2.k2;have HF3 : Hid (fitX 10000000 (minusX FX)) := fit3;have hK3 : (minusX FX).2.2 = -FX.2.2 - 1 := by simp only [minusX]; omega
 have HK3 : Hid _ := hK3;have hw : IntKind.i64.wrap (nx + sk) = nx + sk := wrap_id (by omega) (by omega);clear fit2 fit3 hy hgl hFX hK3;have A0 : Below W.heap.size W ((W.alloc (.cells #[.slice ga ng gc, .slice pa 3 cp, .slice ta nt tc, .bool false] 138)).alloc (.cells #[.int .i64 sk, .slice g.a g.n g.cap, .slice g.c g.m g.cap', .int .i64 g.K] 156)) := (bal).alloc (by simp) _;have x0 := (Cel.new W [.slice ga ng gc, .slice pa 3 cp, .slice ta nt tc, .bool false] 138).alloc (.cells #[.int .i64 sk, .slice g.a g.n g.cap, .slice g.c g.m g.cap', .int .i64 g.K] 156);have y0 := Cel.new (W.alloc (.cells #[.slice ga ng gc, .slice pa 3 cp, .slice ta nt tc, .bool false] 138)) [.int .i64 sk, .slice g.a g.n g.cap, .slice g.c g.m g.cap', .int .i64 g.K] 156;rw [qA] at y0;have t1 := is_test_test;refine callsIn_of_wp Tryz.func115 rfl trivial ?_ rfl;simp only [Tryz.ntmps115, qN, qL, qM, Nat.reduceAdd, Nat.reduceSub, Array.replicate_succ, Array.replicate_zero, List.push_toArray, List.append_toArray, List.nil_append, List.cons_append]
 gi_wp2_with fail
 refine ⟨trivial, hdd _, (callsIn_wide.2 (iintoW_any HY.out (by omega) g hs (hA.below A0) (hP.keep A0))).mono ?_⟩;rintro e w1 ⟨B1, B2, c1, c2, rfl, b1, y1, y2, y3, k1, k2⟩;rw [HFX.out] at k1 k2 ⊢;have E1 := btr A0 b1;have x1 := x0.below b1;have y1' := y0.below b1;have A1 : Below w1.heap.size w1 (w1.alloc (.cells #[.slice (some ⟨B1, 0, none⟩) 3 c1, .slice (some ⟨B2, 0, none⟩) 2 c2, .int .i64 FX.2.2] 81)) := bal;have x2 := x1.below A1;have y2' := y1'.below A1;have z2 := Cel.new w1 [.slice (some ⟨B1, 0, none⟩) 3 c1, .slice (some ⟨B2, 0, none⟩) 2 c2, .int .i64 FX.2.2] 81;have E2 := btr E1 A1;have u1 := k1.below A1;have u2 := k2.below A1;clear x0 y0 x1 y1' A0 b1 y1 y2 y3 k1 k2 E1
 gi_wp2_with fail
 obtain ⟨W0, hW0⟩ : ∃ W0, W0 = w1.alloc (.cells #[.slice (some ⟨B1, 0, none⟩) 3 c1, .slice (some ⟨B2, 0, none⟩) 2 c2, .int .i64 FX.2.2] 81) := ⟨_, rfl⟩
 rw [<- hW0] at x2 y2' z2 E2 u1 u2 ⊢;clear hW0 A1
 have KP : Hid (∀ X, KpR W0 X -> ((X.cell? ⟨W.heap.size, 0, none⟩ = some (.slice ga ng gc) /\ X.cell? ⟨W.heap.size, 1, none⟩ = some (.slice pa 3 cp) /\ X.cell? ⟨W.heap.size, 2, none⟩ = some (.slice ta nt tc) /\ X.cell? ⟨W.heap.size, 3, none⟩ = some (.bool false)) /\ (X.cell? ⟨W.heap.size + 1, 0, none⟩ = some (.int .i64 sk) /\ X.cell? ⟨W.heap.size + 1, 1, none⟩ = some (.slice g.a g.n g.cap) /\ X.cell? ⟨W.heap.size + 1, 2, none⟩ = some (.slice g.c g.m g.cap') /\ X.cell? ⟨W.heap.size + 1, 3, none⟩ = some (.int .i64 g.K)) /\ (X.cell? ⟨w1.heap.size, 0, none⟩ = some (.slice (some ⟨B1, 0, none⟩) 3 c1) /\ X.cell? ⟨w1.heap.size, 1, none⟩ = some (.slice (some ⟨B2, 0, none⟩) 2 c2) /\ X.cell? ⟨w1.heap.size, 2, none⟩ = some (.int .i64 FX.2.2)))) := fun X hX => by
  have q1 := x2.keepR hX (by decide) (by decide);have q2 := y2'.keepR hX (by decide) (by decide);have q3 := z2.keepR hX (by decide) (by decide);obtain ⟨m0, m1, m2, -, -, -⟩ := q3.trio
  exact ⟨q1.four, ⟨q2.cell 0, q2.cell 1, q2.cell 2, q2.cell 3⟩, m0, m1, m2⟩
 have e0 : Below W0.heap.size W0 W0.drew := (Below.refl _ _).drew;have hSS := KP.out _ (KpR.of e0);have G0 := hG.keep E2;clear x2 y2' z2;refine wpIn_region_S (fun w' => (w'.cell? ⟨W.heap.size, 0, none⟩ = some (.slice ga ng gc) /\ w'.cell? ⟨W.heap.size, 1, none⟩ = some (.slice pa 3 cp) /\ w'.cell? ⟨W.heap.size, 2, none⟩ = some (.slice ta nt tc) /\ w'.cell? ⟨W.heap.size, 3, none⟩ = some (.bool false)) /\ (w'.cell? ⟨W.heap.size + 1, 0, none⟩ = some (.int .i64 sk) /\ w'.cell? ⟨W.heap.size + 1, 1, none⟩ = some (.slice g.a g.n g.cap) /\ w'.cell? ⟨W.heap.size + 1, 2, none⟩ = some (.slice g.c g.m g.cap') /\ w'.cell? ⟨W.heap.size + 1, 3, none⟩ = some (.int .i64 g.K)) /\ (w'.cell? ⟨w1.heap.size, 0, none⟩ = some (.slice (some ⟨B1, 0, none⟩) 3 c1) /\ w'.cell? ⟨w1.heap.size, 1, none⟩ = some (.slice (some ⟨B2, 0, none⟩) 2 c2) /\ w'.cell? ⟨w1.heap.size, 2, none⟩ = some (.int .i64 FX.2.2))) (by kernel_rfl) ?_;refine tks 0 rfl rfl hSS ?_;refine tks 1 rfl rfl hSS ?_;refine tks 2 rfl rfl hSS ?_;refine tks 3 rfl rfl hSS ?_;clear hSS;refine wpAnyS_one (i := 4) (by kernel_rfl) rfl (fun K hK => ?_);go_simp;refine ⟨trivial, hdd _, (callsIn_wide.2 (iguard_any FX y.guards _ _ _ _ _ _ _ _ _ _ _ _ _ _ HGL.out ng1 (G0.keep e0) ((u1.below e0).ints' lXC) ((u2.below e0).ints' lXD))).mono ?_⟩;rintro e w2 ⟨G, cG, rfl, bd2, F2⟩;have b2 : Below W0.heap.size W0 w2 := below_of_drew bd2;have HG1 : Hid _ := hgo1 w2 _ cG (btr E2 b2) F2;clear bd2 F2 e0;(try dsimp only);refine hK.out _ _ (KP.out _ (KpR.of b2)) ?_
 refine wpAnyS_one (i := 5) (by kernel_rfl) rfl (fun K hK => ?_);go_simp;refine ⟨trivial, hdd _, (HG1.out _).mono ?_⟩;rintro e w3 ⟨z3, rfl, j3, k3⟩;have K3 := (KpR.of b2).trans k3;have hS3 := KP.out _ K3
 cases z3 with
 | false =>
  (try dsimp only);refine hK.out _ _ hS3 ?_;clear hK K HG1 k3;refine wpAnyS_one (i := 6) (by kernel_rfl) rfl (fun K hK => ?_);go_simp;refine hK.out _ _ hS3 ?_;refine wpAnyS_take (i := 7) (v := undef) rfl rfl (by kernel_rfl) (by kernel_rfl) (by kernel_rfl) (fun _ _ _ h => h) (Or.inr ⟨by kernel_rfl, rfl⟩) (fun _ => rfl) hS3 ?_;refine wpAnyS_take (i := 8) (v := undef) rfl rfl (by kernel_rfl) (by kernel_rfl) (by kernel_rfl) (fun _ _ _ h => h) (Or.inr ⟨by kernel_rfl, rfl⟩) (fun _ => rfl) hS3 ?_;refine wpAnyS_take (i := 9) (v := undef) rfl rfl (by kernel_rfl) (by kernel_rfl) (by kernel_rfl) (fun _ _ _ h => h) (Or.inr ⟨by kernel_rfl, rfl⟩) (fun _ => rfl) hS3 ?_;refine wpAnyS_take (i := 10) (v := undef) rfl rfl (by kernel_rfl) (by kernel_rfl) (by kernel_rfl) (fun _ _ _ h => h) (Or.inr ⟨by kernel_rfl, rfl⟩) (fun _ => rfl) hS3 ?_;simp only [Act.put, qB, qF, qE, qI, qH, qG];refine wpAnyS_take (i := 11) (v := undef) rfl rfl (by kernel_rfl) (by kernel_rfl) (by kernel_rfl) (fun _ _ _ h => h) (Or.inr ⟨by kernel_rfl, rfl⟩) (fun _ => rfl) hS3 ?_;refine wpAnyS_take (i := 12) (v := undef) rfl rfl (by kernel_rfl) (by kernel_rfl) (by kernel_rfl) (fun _ _ _ h => h) (Or.inr ⟨by kernel_rfl, rfl⟩) (fun _ => rfl) hS3 ?_;refine wpAnyS_take (i := 13) (v := undef) rfl rfl (by kernel_rfl) (by kernel_rfl) (by kernel_rfl) (fun _ _ _ h => h) (Or.inr ⟨by kernel_rfl, rfl⟩) (fun _ => rfl) hS3 ?_
  simp only [Act.put, qB, qF, qE, qI, qH, qG];refine wpAnyS_one (i := 14) (by kernel_rfl) rfl (fun K hK => ?_);rw [if_neg (not_true_ofQ (by kernel_rfl))];refine ⟨fun f _ => trivial, hK.out _ _ hS3 ?_⟩;refine wpAnyS_one (i := 15) (by kernel_rfl) rfl (fun K hK => ?_);rw [if_neg (not_true_ofQ (by kernel_rfl))];refine ⟨fun f _ => trivial, hK.out _ _ hS3 ?_⟩;refine wpAnyS_one (i := 16) (by kernel_rfl) rfl (fun K hK => ?_);rw [if_neg (not_true_ofQ (by kernel_rfl))];refine ⟨fun f _ => trivial, hK.out _ _ hS3 ?_⟩;simp only [Act.put, qB, qF, qE, qI, qH, qG];refine wpAnyS_one (i := 17) (by kernel_rfl) rfl (fun K hK => ?_);go_simp;refine hK.out _ _ hS3 ?_;refine wpAnyS_one (i := 18) (by kernel_rfl) rfl (fun K hK => ?_);go_simp;refine hK.out _ _ hS3 ?_;refine wpAnyS_done (by kernel_rfl) ?_ _;have KK := (KpR.of E2).trans K3;clear KP
  gi_wp2
  go_ret
  exact ⟨false, rfl, hJF _ j3, KK⟩
 | true =>
  (try dsimp only);refine hK.out _ _ hS3 ?_;clear hK K HG1 k3;refine wpAnyS_one (i := 6) (by kernel_rfl) rfl (fun K hK => ?_);go_simp;refine hK.out _ _ hS3 ?_;refine wpAnyS_take (i := 7) (v := ?dv7) rfl rfl (by kernel_rfl) (by kernel_rfl) (by kernel_rfl) (fun _ _ _ h => h) (Or.inl ⟨by kernel_rfl, ?dy7⟩) (fun _ => rfl) hS3 ?_
  case dy7 => (intro wz hSw; (try dsimp only at hSw); go_simp; try (with_reducible rfl))
  refine wpAnyS_take (i := 8) (v := ?dv8) rfl rfl (by kernel_rfl) (by kernel_rfl) (by kernel_rfl) (fun _ _ _ h => h) (Or.inl ⟨by kernel_rfl, ?dy8⟩) (fun _ => rfl) hS3 ?_
  case dy8 => (intro wz hSw; (try dsimp only at hSw); go_simp; try (with_reducible rfl))
  refine wpAnyS_take (i := 9) (v := ?dv9) rfl rfl (by kernel_rfl) (by kernel_rfl) (by kernel_rfl) (fun _ _ _ h => h) (Or.inl ⟨by kernel_rfl, ?dy9⟩) (fun _ => rfl) hS3 ?_
  case dy9 => (intro wz hSw; (try dsimp only at hSw); go_simp; try (with_reducible rfl))
  refine wpAnyS_take (i := 10) (v := ?dv10) rfl rfl (by kernel_rfl) (by kernel_rfl) (by kernel_rfl) (fun _ _ _ h => h) (Or.inl ⟨by kernel_rfl, ?dy10⟩) (fun _ => rfl) hS3 ?_
  case dy10 => (intro wz hSw; (try dsimp only at hSw); go_simp; try (with_reducible rfl))
  refine wpAnyS_take (i := 11) (v := ?dv11) rfl rfl (by kernel_rfl) (by kernel_rfl) (by kernel_rfl) (fun _ _ _ h => h) (Or.inl ⟨by kernel_rfl, ?dy11⟩) (fun _ => rfl) hS3 ?_
  case dy11 => (intro wz hSw; (try dsimp only at hSw); go_simp; try (with_reducible rfl))
  refine wpAnyS_take (i := 12) (v := ?dv12) rfl rfl (by kernel_rfl) (by kernel_rfl) (by kernel_rfl) (fun _ _ _ h => h) (Or.inl ⟨by kernel_rfl, ?dy12⟩) (fun _ => rfl) hS3 ?_
  case dy12 => (intro wz hSw; (try dsimp only at hSw); go_simp; try (with_reducible rfl))
  refine wpAnyS_take (i := 13) (v := ?dv13) rfl rfl (by kernel_rfl) (by kernel_rfl) (by kernel_rfl) (fun _ _ _ h => h) (Or.inl ⟨by kernel_rfl, ?dy13⟩) (fun _ => rfl) hS3 ?_
  case dy13 => (intro wz hSw; (try dsimp only at hSw); go_simp; try (with_reducible rfl))
  have v1 := (u1.ints' lXC).keepR K3;have v2 := (u2.ints' lXD).keepR K3;have G3 := G0.keepR K3;clear hS3 u1 u2 G0 b2;refine wpAnyS_one (i := 14) (by kernel_rfl) rfl (fun K hK => ?_);go_simp;refine ⟨trivial, hdd _, (callsIn_wide.2 (ilack_any FX.1 FX.2.1 v1 v2 bXC bXD bX1 bX2 HF3.out)).mono ?_⟩;rintro e w4 ⟨M1, M2, rfl, b4, -, -, -, m1, m2⟩;have K4 := K3.trans (KpR.of b4);have j4 := hJ1 _ _ j3 b4;(try dsimp only);refine hK.out _ _ (KP.out _ K4) ?_;clear hK K j3 K3;have hcall := iguard_any (minusX FX) y.guards ga ng gc pa cp ta nt tc false (some ⟨M1, 0, none⟩) 3 (some ⟨M2, 0, none⟩) 2 w4 HGL.out ng1 (G3.keep b4) (m1.ints' (by rw [mulL_len]; exact lXC)) (m2.ints' (by rw [mulL_len]; exact lXD));rw [HK3.out] at hcall;refine wpAnyS_one (i := 15) (by kernel_rfl) rfl (fun K hK => ?_);go_simp;refine ⟨trivial, hdd _, (callsIn_wide.2 hcall).mono ?_⟩;rintro e w5 ⟨G5, c5, rfl, b5, F5⟩;have K5 := K4.trans (KpR.of b5);have HG2 : Hid _ := hgo2 w5 _ c5 ((KpR.of E2).trans K5) (hJ1 _ _ j4 b5) F5;(try dsimp only);refine hK.out _ _ (KP.out _ K5) ?_;clear hK K hcall F5 j4 K4 m1 m2;refine wpAnyS_one (i := 16) (by kernel_rfl) rfl (fun K hK => ?_);go_simp;refine ⟨trivial, hdd _, (HG2.out _).mono ?_⟩;rintro e w6 ⟨z6, rfl, j6, k6⟩;have K6 := K5.trans k6;have KK := (KpR.of E2).trans K6;(try dsimp only);refine hK.out _ _ (KP.out _ K6) ?_;clear hK K HG2;refine wpAnyS_one (i := 17) (by kernel_rfl) rfl (fun K hK => ?_);go_simp;refine hK.out _ _ (KP.out _ K6) ?_
  refine wpAnyS_one (i := 18) (by kernel_rfl) rfl (fun K hK => ?_);go_simp;refine hK.out _ _ (KP.out _ K6) ?_;refine wpAnyS_done (by kernel_rfl) ?_ _;clear KP
  gi_wp2
  go_ret
  exact ⟨z6, rfl, j6, KK⟩
attribute [local go_sem] Oper.semAt_some
theorem from_step (l : Nat) (SG N sc i0 : Nat) (hlt : i0 < N) (hi1 : i0 <= 12) (ga : Option Addr) (ng gc : Nat) (pa : Option Addr) (cp : Nat) (ta : Option Addr) (nt tc : Nat) {ty : TypeId} {sv : Value} (cur : List Value) {J : Bool -> World -> Prop} (W : World) (n : Nat) (hC : Cel W SG cur 149) (hv : cur[i0]? = some (.iface ty sv))
  (hpast : ∀ X m, Below W.heap.size W X -> CallsIn Fence.wide m Tryz.prog 115 #[wayV ga ng gc pa cp ta nt tc false, .iface ty sv, .int .i64 ((i0 : Int) + 1), goV l (some ⟨SG, 0, none⟩) N sc] X fun e Y => ∃ b : Bool, e = .returned (.bool b) /\ J b Y /\ KpR X Y) :
  CallsIn Fence.wide n Tryz.prog 95 #[walkV l (some ⟨SG, 0, none⟩) N sc, .int .i64 (i0 : Int), wayV ga ng gc pa cp ta nt tc false] W fun e Y => ∃ b : Bool, e = .returned (.bool b) /\ J b Y /\ KpR W Y := by
 have hdd : ∀ k : Nat, (Fence.wide.depth.isSome = true -> 1 <= k) := fun k h => by simp [Fence.wide] at h
 have hge : ¬ ((N : Int) <= i0) := by omega
 have hlt' : (i0 : Int) < N := by omega
 have hw : IntKind.i64.wrap ((i0 : Int) + 1) = (i0 : Int) + 1 := wrap_id (by omega) (by omega);have A : Below W.heap.size W ((W.alloc (.cells #[.slice (some ⟨SG, 0, none⟩) N sc, .func (.yield l) #[] #[]] 135)).alloc (.cells #[.slice ga ng gc, .slice pa 3 cp, .slice ta nt tc, .bool false] 138)) := (bal).alloc (by simp) _;have x0 := (Cel.new W [.slice (some ⟨SG, 0, none⟩) N sc, .func (.yield l) #[] #[]] 135).alloc (.cells #[.slice ga ng gc, .slice pa 3 cp, .slice ta nt tc, .bool false] 138);have y0 := Cel.new (W.alloc (.cells #[.slice (some ⟨SG, 0, none⟩) N sc, .func (.yield l) #[] #[]] 135)) [.slice ga ng gc, .slice pa 3 cp, .slice ta nt tc, .bool false] 138;rw [qA] at y0;have s0 := hC.below A;refine callsIn_of_wp Tryz.func95 rfl trivial ?_ rfl;simp only [Tryz.ntmps95, qN, qL, qM, Nat.reduceAdd, Nat.reduceSub, Array.replicate_succ, Array.replicate_zero, List.push_toArray, List.append_toArray, List.nil_append, List.cons_append]
 gi_wp2_with fail
 obtain ⟨W0, hW0⟩ : ∃ W0, W0 = (W.alloc (.cells #[.slice (some ⟨SG, 0, none⟩) N sc, .func (.yield l) #[] #[]] 135)).alloc (.cells #[.slice ga ng gc, .slice pa 3 cp, .slice ta nt tc, .bool false] 138) := ⟨_, rfl⟩
 rw [<- hW0] at A x0 y0 s0 ⊢;clear hW0
 have KP : Hid (∀ X, KpR W0 X -> ((X.cell? ⟨W.heap.size, 0, none⟩ = some (.slice (some ⟨SG, 0, none⟩) N sc) /\ X.cell? ⟨W.heap.size, 1, none⟩ = some (.func (.yield l) #[] #[])) /\ (X.cell? ⟨W.heap.size + 1, 0, none⟩ = some (.slice ga ng gc) /\ X.cell? ⟨W.heap.size + 1, 1, none⟩ = some (.slice pa 3 cp) /\ X.cell? ⟨W.heap.size + 1, 2, none⟩ = some (.slice ta nt tc) /\ X.cell? ⟨W.heap.size + 1, 3, none⟩ = some (.bool false)) /\ X.cell? ⟨SG, i0, none⟩ = some (.iface ty sv))) := fun X hX => by
  have a1 := x0.keepR hX (by decide) (by decide);have a2 := y0.keepR hX (by decide) (by decide);have a3 := s0.keepR hX (by decide) (by decide)
  exact ⟨⟨a1.cell 0, a1.cell 1⟩, a2.four, (a3.cell i0).trans hv⟩
 have e0 : Below W0.heap.size W0 W0.drew := (Below.refl _ _).drew;have hSS := KP.out _ (KpR.of e0);have HP : Hid _ := hpast _ (n - 1) (btr A e0);clear x0 y0 s0 hpast;refine wpIn_region_S (fun w' => (w'.cell? ⟨W.heap.size, 0, none⟩ = some (.slice (some ⟨SG, 0, none⟩) N sc) /\ w'.cell? ⟨W.heap.size, 1, none⟩ = some (.func (.yield l) #[] #[])) /\ (w'.cell? ⟨W.heap.size + 1, 0, none⟩ = some (.slice ga ng gc) /\ w'.cell? ⟨W.heap.size + 1, 1, none⟩ = some (.slice pa 3 cp) /\ w'.cell? ⟨W.heap.size + 1, 2, none⟩ = some (.slice ta nt tc) /\ w'.cell? ⟨W.heap.size + 1, 3, none⟩ = some (.bool false)) /\ w'.cell? ⟨SG, i0, none⟩ = some (.iface ty sv)) (by kernel_rfl) ?_;refine tks 0 rfl rfl hSS ?_;refine tks 1 rfl rfl hSS ?_;refine tks 2 rfl rfl hSS ?_;refine tks 3 rfl rfl hSS ?_;refine tks 4 rfl rfl hSS ?_;refine tks 5 rfl rfl hSS ?_;refine tks 6 rfl rfl hSS ?_;refine tks 7 rfl rfl hSS ?_;refine tks 8 rfl rfl hSS ?_;refine tks 9 rfl rfl hSS ?_;clear hSS;refine wpAnyS_one (i := 10) (by kernel_rfl) rfl (fun K hK => ?_);go_simp;refine ⟨trivial, hdd _, CallsIn.mono HP.out ?_⟩;rintro e w1 ⟨z1, rfl, j1, k1⟩;have K1 : KpR W0 w1 := (KpR.of e0).trans k1;have KK := (KpR.of A).trans K1;(try dsimp only);refine hK.out _ _ (KP.out _ K1) ?_;clear hK K HP;refine wpAnyS_one (i := 11) (by kernel_rfl) rfl (fun K hK => ?_);go_simp;refine hK.out _ _ (KP.out _ K1) ?_;refine wpAnyS_done (by kernel_rfl) ?_ _;clear KP
 gi_wp2
 go_ret
 exact ⟨z1, rfl, j1, KK⟩
def Stp (W : World) (SG N : Nat) (ls : List LV) : Prop := ∃ cur, Cel W SG cur 149 /\ ∀ j, j < N -> cur[j]? = some (stepV (ls[j]?.getD noLV))
def LinesIn (W : World) (ls : List LV) : Prop := ∀ j, j < ls.length -> (ls[j]?.getD noLV).f.At W
theorem FV.At.keepR {g : FV} (h : g.At X) (k : KpR X Y) : g.At Y := ⟨h.C.keepR k, h.D.keepR k, h.hn, h.hm⟩
theorem Stp.keepR {SG N : Nat} {ls : List LV} (h : Stp X SG N ls) (k : KpR X Y) : Stp Y SG N ls := by
 obtain ⟨cur, hc, hv⟩ := h
 exact ⟨cur, hc.keepR k (by decide) (by decide), hv⟩
theorem LinesIn.keepR {ls : List LV} (h : LinesIn X ls) (k : KpR X Y) : LinesIn Y ls := fun j hj => (h j hj).keepR k
theorem from_any (l n₀ : Nat) (J D : List RowM -> World -> Prop) (hJ : ∀ pre X Y, J pre X -> Below X.heap.size X Y -> J pre Y) (M : Nat) (hY : RoundsD l n₀ J D M) (SG N sc : Nat) (ls : List LV) (hN : ls.length = N) (h6 : N <= 6) (hall : ls.all LV.ok = true) (f : Nat) :
  ∀ (i0 : Nat) (y : Way) (pa : Option Addr) (cp : Nat) (ga : Option Addr) (ng gc : Nat) (ta : Option Addr) (nt tc : Nat) (pre : List RowM) (W : World) (n : Nat), f <= 7 -> N <= i0 + f -> i0 <= 12 -> WayOk i0 y -> y.guards.length = ng -> y.tells.length = nt -> Stp W SG N ls -> LinesIn W ls -> FormsAt W pa y.pots -> FormsAt W ga y.guards -> FormsAt W ta y.tells -> n₀ <= W.heap.size -> J pre W -> pre.length + (goW ls f i0 y).length <= M ->
  CallsIn Fence.wide n Tryz.prog 95 #[walkV l (some ⟨SG, 0, none⟩) N sc, .int .i64 (i0 : Int), wayV ga ng gc pa cp ta nt tc false] W fun e Y => ∃ b : Bool, e = .returned (.bool b) /\ Went J D pre (goW ls f i0 y) b Y /\ KpR W Y := by
 have atEnd : ∀ (f i0 : Nat) (y : Way) (pa : Option Addr) (cp : Nat) (ga : Option Addr) (ng gc : Nat) (ta : Option Addr) (nt tc : Nat) (pre : List RowM) (W : World) (n : Nat), N <= i0 -> i0 <= 12 -> WayOk i0 y -> y.guards.length = ng -> y.tells.length = nt -> FormsAt W pa y.pots -> FormsAt W ga y.guards -> FormsAt W ta y.tells -> n₀ <= W.heap.size -> J pre W -> pre.length + (goW ls f i0 y).length <= M ->
   CallsIn Fence.wide n Tryz.prog 95 #[walkV l (some ⟨SG, 0, none⟩) N sc, .int .i64 (i0 : Int), wayV ga ng gc pa cp ta nt tc false] W fun e Y => ∃ b : Bool, e = .returned (.bool b) /\ Went J D pre (goW ls f i0 y) b Y /\ KpR W Y := by
  intro f i0 y pa cp ga ng gc ta nt tc pre W n hi hi1 hy hg ht hP hG hT hn0 h0;rw [goW_end (by omega)];intro hM;have hM' : pre.length < M := by simp only [qL, qM] at hM; omega
  have g1 := hy.gl;have g2 := hy.tl
  exact from_end l n₀ J D hJ M hY _ N sc i0 hi hi1 y pa cp ga ng gc ta nt tc false (endW y) pre W n hn0 h0 (endW_fit hy) hM' (fun X hb => irow_end y ga ng gc pa cp ta nt tc X hy.pl hg ht (hP.keep hb) (hG.keep hb) (hT.keep hb) (fun k hk => (hy.pf k hk).mono (by have := wb_six (n := min i0 6) (by omega); omega)) (fun k hk => hy.gf k (by omega)) (fun k hk => hy.tf k (by omega)))
 induction f with
 | zero => intro i0 y pa cp ga ng gc ta nt tc pre W n _ hfu hi1 hy hg ht _ _ hP hG hT hn0 h0 hM; exact atEnd 0 i0 y pa cp ga ng gc ta nt tc pre W n (by omega) hi1 hy hg ht hP hG hT hn0 h0 hM
 | succ f ih =>
  intro i0 y pa cp ga ng gc ta nt tc pre W n hf7 hfu hi1 hy hg ht hS hLI hP hG hT hn0 h0 hM
  by_cases hlt : i0 < N
  ·have hl : i0 < ls.length := by omega
   have hok : (ls[i0]?.getD noLV).ok = true := by
    rw [List.getElem?_eq_getElem hl]
    exact List.all_eq_true.1 hall _ (List.getElem_mem hl)
   obtain ⟨cur, hC, hv⟩ := hS;have hv0 := hv i0 hlt;have hA := hLI i0 hl;have hS' : Stp W SG N ls := ⟨cur, hC, hv⟩
   rw [goW, if_pos hl] at hM ⊢;generalize ls[i0]?.getD noLV = q at *;have e1 : ((i0 + 1 : Nat) : Int) = (i0 : Int) + 1 := by omega
   by_cases hk4 : q.kind = 4
   ·rw [if_neg (by omega), if_neg (by omega), if_neg (by omega)] at hM ⊢;have hM' : pre.length < M := by simp only [qL, qM] at hM; omega
    have hst : stepV q = .iface 162 (.agg #[]) := by simp [stepV, hk4]
    rw [hst] at hv0;have g1 := hy.gl;refine from_step l SG N sc i0 hlt hi1 ga ng gc pa cp ta nt tc cur W n hC hv0 (fun X m hb => past_stop l N sc ga ng gc pa cp ta nt tc X m (fun X2 hb2 m2 => ?_));have hb' := btr hb hb2
    exact from_end l n₀ J D hJ M hY _ N sc 6 h6 (by omega) y pa cp ga ng gc ta nt tc true (stopW y) pre X2 m2 (by have := hb'.size; omega) (hJ _ _ _ h0 hb') (stopW_fit hy) hM' (fun X3 hb3 => irow_stop y ga ng gc pa cp ta nt tc X3 hg (hG.keep (btr hb' hb3)) (fun k hk => hy.gf k (by omega)) (by omega))
   obtain ⟨hsm, hkk, hz, hp⟩ := lineW (show lineB q.kind q.pot q.skip q.f.n q.f.m q.f.C q.f.D q.f.K = true from hok) hk4;obtain ⟨f1, f2, f3⟩ := hy.into (by omega) (f := q.f) hsm hA.D.1
   rcases hkk with e | e | e
   ·rw [if_pos e] at hM ⊢;rw [qJ] at hM;obtain ⟨z1, z2⟩ := hz e;have hst : stepV q = .iface 156 (.agg #[.int .i64 q.skip, .slice q.f.a q.f.n q.f.cap, .slice q.f.c q.f.m q.f.cap', .int .i64 q.f.K]) := by simp [stepV, e]
    rw [hst] at hv0;have e2 : ((i0 + 1 + q.skip.toNat : Nat) : Int) = (i0 : Int) + 1 + q.skip := by omega
    refine from_step l SG N sc i0 hlt hi1 ga ng gc pa cp ta nt tc cur W n hC hv0 (fun X m hb => ?_);have kX : KpR W X := KpR.of hb;refine past_test l N sc q.skip ⟨by omega, by omega⟩ ⟨by omega, by omega⟩ i0 y hy (by omega) q.f hsm ga ng gc pa cp ta nt tc (Went J D pre (goW ls f (i0 + 1) (y.guard (intoX q.f y.pots)))) (fun A B a b => Or.inl ⟨rfl, hJ _ _ _ a.on b⟩) (fun Y h => h.fst) X m (hA.keepR kX) (hP.keepR kX) (hG.keepR kX) hg (fun X2 ga' gc' hb2 F m2 => ?_) (fun X2 ga' gc' k2 j2 F m2 => ?_)
    ·have k2 : KpR W X2 := kX.trans (KpR.of hb2);have := ih (i0 + 1) (y.guard (intoX q.f y.pots)) pa cp ga' (ng + 1) gc' ta nt tc pre X2 m2 (by omega) (by omega) (by omega) (hy.guard (by omega) f2) (by show (y.guards ++ [_]).length = ng + 1; rw [qJ, hg]; rfl) ht (hS'.keepR k2) (hLI.keepR k2) (hP.keepR k2) F (hT.keepR k2) (Nat.le_trans hn0 k2.size) (hJ _ _ _ (hJ _ _ _ h0 hb) hb2) (by omega);rw [e1] at this
     exact this
    have k3 : KpR W X2 := kX.trans k2;have := ih (i0 + 1 + q.skip.toNat) (y.guard (minusX (intoX q.f y.pots))) pa cp ga' (ng + 1) gc' ta nt tc _ X2 m2 (by omega) (by omega) (by omega) (hy.guard (by omega) f3) (by show (y.guards ++ [_]).length = ng + 1; rw [qJ, hg]; rfl) ht (hS'.keepR k3) (hLI.keepR k3) (hP.keepR k3) F (hT.keepR k3) (Nat.le_trans hn0 k3.size) j2.on (by rw [qJ]; omega);rw [e2] at this
    exact this.mono (fun e Y ⟨b, h1, h2, h3⟩ => ⟨b, h1, h2.snd, h3⟩)
   ·rw [if_neg (by omega), if_pos e] at hM ⊢;obtain ⟨z1, z2⟩ := hp e;obtain ⟨p, hpq⟩ : ∃ p : Nat, q.pot = p := ⟨q.pot.toNat, by omega⟩
    have hpn : q.pot.toNat = p := by omega
    have hst : stepV q = .iface 158 (.agg #[.int .i64 (p : Int), .slice q.f.a q.f.n q.f.cap, .slice q.f.c q.f.m q.f.cap', .int .i64 q.f.K]) := by simp [stepV, e, hpq]
    rw [hst] at hv0;rw [hpn] at hM ⊢;refine from_step l SG N sc i0 hlt hi1 ga ng gc pa cp ta nt tc cur W n hC hv0 (fun X m hb => ?_);have kX : KpR W X := KpR.of hb;refine past_add l N sc i0 y hy (by omega) q.f hsm ga ng gc pa cp ta nt tc X m (hA.keepR kX) (hP.keepR kX) (hT.keepR kX) ht p (by omega) (fun X2 pa' cp' hb2 F m2 => ?_);have k2 : KpR W X2 := kX.trans (KpR.of hb2);have := ih (i0 + 1) (y.add p (intoX q.f y.pots)) pa' cp' ga ng gc ta nt tc pre X2 m2 (by omega) (by omega) (by omega) (hy.add (by omega) (by omega) f1) hg ht (hS'.keepR k2) (hLI.keepR k2) F (hG.keepR k2) (hT.keepR k2) (Nat.le_trans hn0 k2.size) (hJ _ _ _ (hJ _ _ _ h0 hb) hb2) hM;rw [e1] at this
    exact this
   rw [if_neg (by omega), if_neg (by omega), if_pos e] at hM ⊢;have hst : stepV q = .iface 160 (.agg #[.slice q.f.a q.f.n q.f.cap, .slice q.f.c q.f.m q.f.cap', .int .i64 q.f.K]) := by simp [stepV, e]
   rw [hst] at hv0;refine from_step l SG N sc i0 hlt hi1 ga ng gc pa cp ta nt tc cur W n hC hv0 (fun X m hb => ?_);have kX : KpR W X := KpR.of hb;refine past_print l N sc i0 y hy (by omega) q.f hsm ga ng gc pa cp ta nt tc X m (hA.keepR kX) (hP.keepR kX) (hT.keepR kX) ht (fun X2 ta' tc' hb2 F m2 => ?_);have k2 : KpR W X2 := kX.trans (KpR.of hb2);have := ih (i0 + 1) (y.tell (intoX q.f y.pots)) pa cp ga ng gc ta' (nt + 1) tc' pre X2 m2 (by omega) (by omega) (by omega) (hy.tell (by omega) f2) hg (by show (y.tells ++ [_]).length = nt + 1; rw [qJ, ht]; rfl) (hS'.keepR k2) (hLI.keepR k2) (hP.keepR k2) (hG.keepR k2) F (Nat.le_trans hn0 k2.size) (hJ _ _ _ (hJ _ _ _ h0 hb) hb2) hM;rw [e1] at this
   exact this
  exact atEnd (f + 1) i0 y pa cp ga ng gc ta nt tc pre W n (by omega) hi1 hy hg ht hP hG hT hn0 h0 hM
end Go.Proofs.YtdaiaohlkdolmaaGreat
