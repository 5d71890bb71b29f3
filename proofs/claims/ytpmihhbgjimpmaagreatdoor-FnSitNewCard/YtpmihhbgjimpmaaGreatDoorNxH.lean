/-
  Lemmas that the claim's last text rests on.
-/
import Derived.Test.YtpmihhbgjimpmaaGreatDoorNxG
namespace Go.Proofs.YtpmihhbgjimpmaaGreatDoor
open Go.RowKit Go.ChangeShapes Go.WideShapes Go.ChangeAt Go.Joins Go.Deep
open World renaming size_alloc → qA
open List renaming getElem?_eq_getElem → qB, length_append → qC, take_of_length_le → qD
open Nat renaming le_refl → qE, zero_le → qF
set_option linter.unusedVariables false
set_option maxRecDepth 100000
set_option maxHeartbeats 25600000
variable {B N R c cap g k n : Nat} {S : Nat -> Prop} {W w w' : World} {a ad : Option Addr} {bs : List Int} {ls : List LV} {s : L2V} {ss : List L2V}
theorem LinesG.off (h : LinesG w ad ls) (t : Touch S w w') (h0 : ∀ b o, ad = some ⟨b, o, none⟩ -> ¬ S b) (h1 : ∀ i, i < ls.length -> (∀ b o, (ls[i]?.getD noLV).f.a = some ⟨b, o, none⟩ -> ¬ S b) /\ (∀ b o, (ls[i]?.getD noLV).f.c = some ⟨b, o, none⟩ -> ¬ S b)) : LinesG w' ad ls := by
 intro i hi;obtain ⟨b, off, e, hc, ha⟩ := h i hi;have hl : b < w.heap.size := block_lt (v := .int .i64 (ls[i]?.getD noLV).kind) (by rw [hc 0 (by omega)]; rfl);have hb := t.block b hl (h0 b off e)
 exact ⟨b, off, e, fun r hr => (World.cell?_of_block hb).trans (hc r hr), ha.off t (h1 i hi).1 (h1 i hi).2⟩
structure AcP (P : Nat -> Prop) (W : World) (s : L2V) : Prop where
 len : s.x.length = s.n
 g : LinesG W s.a s.x
 ok : actB s.n s.x = true
 pa : ∀ b o, s.a = some ⟨b, o, none⟩ -> P b
 pf : ∀ i, i < s.x.length -> (∀ b o, (s.x[i]?.getD noLV).f.a = some ⟨b, o, none⟩ -> P b) /\ (∀ b o, (s.x[i]?.getD noLV).f.c = some ⟨b, o, none⟩ -> P b)
section
variable {P P' : Nat -> Prop} {W W' : World} {s : L2V}
theorem AcP.touch (h : AcP P W s) (t : Touch S W W') (hS : ∀ b, P b -> ¬ S b) : AcP P W' s :=
 ⟨h.len, h.g.off t (fun b o e => hS b (h.pa b o e)) (fun i hi => ⟨fun b o e => hS b ((h.pf i hi).1 b o e), fun b o e => hS b ((h.pf i hi).2 b o e)⟩), h.ok, h.pa, h.pf⟩
theorem AcP.below (h : AcP P W s) (b : Below W.heap.size W W') : AcP P W' s := ⟨h.len, h.g.below b, h.ok, h.pa, h.pf⟩
theorem AcP.mono (h : AcP P W s) (hP : ∀ b, P b -> P' b) : AcP P' W s := ⟨h.len, h.g, h.ok, fun b o e => hP b (h.pa b o e), fun i hi => ⟨fun b o e => hP b ((h.pf i hi).1 b o e), fun b o e => hP b ((h.pf i hi).2 b o e)⟩⟩
theorem AcP.six (h : AcP P W s) : s.n <= 6 := by
 have := h.ok;unfold actB at this;simp only [Bool.and_eq_true, decide_eq_true_eq] at this
 omega
end
theorem JL.act {wL : World} {q : Int} (j : JL wL R a n cap bs q (.slice ad N c) ls W) (hl : ls.length = N) (ho : actB N ls = true) : AcP (fun b => wL.heap.size <= b /\ b < W.heap.size) W ⟨ad, N, c, ls⟩ := by
 refine ⟨hl, j.g hl, ho, fun b o e => ?_, fun i hi => ⟨fun b o e => ⟨(j.na i hi b o e).1, (j.na i hi b o e).2.1⟩, fun b o e => ⟨(j.nc i hi b o e).1, (j.nc i hi b o e).2.1⟩⟩⟩;have e' : ad = some ⟨b, o, none⟩ := e;subst e'
 exact j.o.lt b rfl
structure JAs (w : World) (R : Nat) (a : Option Addr) (n cap : Nat) (bs : List Int) (q : Int) (v : Value) (ss : List L2V) (W : World) : Prop where
 t : Touch (fun x => x = R) w W
 r : Rd W R a n cap bs q
 o : W.ownsRow w.heap.size 57 1 v ss.length (ss.map L2V.v)
 ac : ∀ i, i < ss.length -> AcP (fun b => w.heap.size <= b /\ b < W.heap.size /\ v.ownBlock ≠ some b) W (ss[i]?.getD noL)
 lR : R < w.heap.size
 lb : 0 < n -> ∀ b o, a = some ⟨b, o, none⟩ -> b < w.heap.size
section
variable {w W W' : World} {R : Nat} {a : Option Addr} {n cap : Nat} {bs : List Int} {q : Int} {v : Value} {ss : List L2V}
theorem JAs.below (j : JAs w R a n cap bs q v ss W) (b : Below W.heap.size W W') : JAs w R a n cap bs q v ss W' :=
 ⟨j.t.trans (Touch.of b), j.r.below b, own_belowL j.o b, fun i hi => ((j.ac i hi).below b).mono (fun x h => ⟨h.1, Nat.lt_of_lt_of_le h.2.1 b.size, h.2.2⟩), j.lR, j.lb⟩
theorem JAs.pick {q' : Int} (j : JAs w R a n cap bs q v ss W) (t : Touch (fun x => x = R) W W') (r : Rd W' R a n cap bs q') : JAs w R a n cap bs q' v ss W' := by
 have lR := j.lR
 exact ⟨j.t.trans t, r, ownsRow_touch j.o t (fun k h => by omega), fun i hi => ((j.ac i hi).touch t (fun b h => by omega)).mono (fun x h => ⟨h.1, Nat.lt_of_lt_of_le h.2.1 t.size, h.2.2⟩), j.lR, j.lb⟩
theorem JAs.app {H : Nat} (j : JAs w R a n cap bs q v ss W) (hk : ss.length = k) (hs : AcP (fun b => w.heap.size <= b /\ b < H /\ v.ownBlock ≠ some b) W s) (hH : H <= W.heap.size) (hsz : ∀ i, i < ss.length -> AcP (fun b => b < H) W (ss[i]?.getD noL))
  (hown : W'.ownsRow w.heap.size 57 1 (.slice (some ⟨g, 0, none⟩) (k + 1) c) (k + 1) (ss.map L2V.v ++ [s.v])) (hg : W.grownBy W' v.ownBlock) (hat : v.ownBlock = some g \/ H <= g) : JAs w R a n cap bs q (.slice (some ⟨g, 0, none⟩) (k + 1) c) (ss ++ [s]) W' := by
 have hr : ∀ x, v.ownBlock = some x -> w.heap.size <= x := fun x hx => (j.o.lt x hx).1;have lR := j.lR;have T : Touch (fun x => v.ownBlock = some x) W W' := ⟨hg.os, hg.tape, hg.output, hg.size, fun x hx hs => hg.block x hx (fun e => hs e.symm)⟩
 have hn : ∀ b, v.ownBlock ≠ some b -> b < H -> (Value.slice (some ⟨g, 0, none⟩) (k + 1) c).ownBlock ≠ some b := fun b h1 h2 e => by
  simp only [Value.ownBlock, Option.some.injEq] at e
  rcases hat with h | h
  ·rw [h] at h1; exact h1 (by rw [e])
  omega
 have hs' := hg.size;refine ⟨j.t.grown hg hr, j.r.touch T (fun e => by have := hr _ e; omega) (fun h0 b o hab e => by have := j.lb h0 b o hab; have := hr _ e; omega), ?_, fun i hi => ?_, j.lR, j.lb⟩
 ·rw [qC, hk, List.map_append];simpa using hown
 by_cases h : i < ss.length
 ·rw [List.getElem?_append_left h];have h1 := (j.ac i h).touch T (fun b hb => hb.2.2);have h2 := hsz i h
  exact ⟨h1.len, h1.g, h1.ok, fun b o e => ⟨(h1.pa b o e).1, by have := h2.pa b o e; omega, hn b (h1.pa b o e).2.2 (h2.pa b o e)⟩, fun m hm => ⟨fun b o e => ⟨((h1.pf m hm).1 b o e).1, by have := (h2.pf m hm).1 b o e; omega, hn b ((h1.pf m hm).1 b o e).2.2 ((h2.pf m hm).1 b o e)⟩, fun b o e => ⟨((h1.pf m hm).2 b o e).1, by have := (h2.pf m hm).2 b o e; omega, hn b ((h1.pf m hm).2 b o e).2.2 ((h2.pf m hm).2 b o e)⟩⟩⟩
 have : i = ss.length := by rw [qC] at hi; simp at hi; omega
 subst this;have e : (ss ++ [s])[ss.length]?.getD noL = s := by simp
 rw [e]
 exact (hs.touch T (fun b hb => hb.2.2)).mono (fun b hb => ⟨hb.1, by omega, hn b hb.2.2 hb.2.1⟩)
end
theorem Tryz.infoLns : (Tryz.prog.info? 57).map (fun i => (i.zero, i.size, i.bytes)) = some (some (.slice none 0 0), 1, 24) := by kernel_rfl
theorem acts_f (R : Nat) (a : Option Addr) (n cap : Nat) (bs : List Int) (p : Int) {w : World} (rd : Rd w R a n cap bs p) (hp : 0 <= p) (hp1 : p <= 6000000) (ha : 0 < n -> ∀ b o, a = some ⟨b, o, none⟩ -> b < w.heap.size) :
  Calls Tryz.prog 125 #[.pointer (some ⟨R, 0, none⟩)] w fun e w' => ∃ ad N c ss q, e = .returned (.slice ad N c) /\ JAs w R a n cap bs q (.slice ad N c) ss w' /\ ss.length = N /\ 1 <= N /\ N <= 4 /\ p <= q /\ q <= p + 330 := by
 have hRl := rd.c.lt;have al := (Below.refl w.heap.size w).alloc (qE _) (.cells #[] 57);have o0 := World.ownsRow_lit (base := w.heap.size) (e := 57) (size := 1) w #[] 0 (qE _) (by unfold maxLen; omega) rfl;have j0 : JAs w R a n cap bs p (.slice (some ⟨w.heap.size, 0, none⟩) 0 0) [] (w.alloc (.cells #[] 57)) := ⟨Touch.of al, rd.below al, o0, fun i hi => by simp at hi, hRl, ha⟩
 obtain ⟨i0, hi, hz0, hz1, hz2⟩ := info_parts Tryz.infoLns;clear al o0 rd
 go_enter Tryz.func125, Tryz.ntmps125
 go_wp2_with fail
 refine (pick_any R a n cap bs p 4 j0.r).mono ?_;rintro e wS ⟨rk, k0, k1, rfl, t5, R5⟩;obtain ⟨rk, rfl⟩ := Int.eq_ofNat_of_zero_le k0;replace j0 := j0.pick t5 R5;clear t5 R5 k0
 go_wp2_with fail
 go_loopw [3, 4] (fun v i wr => ∃ (m : Nat) (ss : List L2V) (q : Int), i = .int .i64 m /\ ss.length + m = rk + 1 /\ JAs w R a n cap bs q v ss wr /\ p <= q /\ q + 80 * m <= p + 330) (fun _ i _ => (intOf i).toNat)
 case atStart => exact ⟨rk + 1, [], _, by go_num, by simp, j0, by omega, by omega⟩
 case round =>
  clear j0;obtain ⟨m, ss, q, rfl, hlm, j, hq0, hq1⟩ := hrel
  by_cases hm : 0 < m
  ·have hm' : (0 : Int) < (m : Int) := by omega
   obtain ⟨k, hk⟩ : ∃ k, k = ss.length := ⟨_, rfl⟩
   have HK : Hid (ss.length = k) := hk.symm;have hlm' : k + m = rk + 1 := by omega
   obtain ⟨vad, vcap, rfl⟩ := own_slice j.o;rw [<- hk] at j;rw [<- hk];clear hk hlm;have hvb := fun x hx => ((j.o.lt x hx).2 : x < wr.heap.size)
   go_wp2_with fail
   refine (act_f R a n cap bs q j.r (by omega) (by omega) j.r.ha).mono ?_;rintro e w5 ⟨ad, N, c, ls, q5, rfl, d5, hN, hok, v0, v1⟩;have hszL := j.t.size;replace j := j.pick d5.t d5.r;have sa := d5.act hN hok;have hs5 := d5.t.size;clear d5;have al := (Below.refl w5.heap.size w5).alloc (qE _) (.cells #[.slice ad N c] 57);have SZ : ∀ i, i < ss.length -> AcP (fun b => b < w5.heap.size) (w5.alloc (.cells #[.slice ad N c] 57)) (ss[i]?.getD noL) := fun i hi => ((j.ac i hi).mono (fun b hb => hb.2.1)).below al;have ja := j.below al;have hsa := (sa.below al).mono (P' := fun b => w.heap.size <= b /\ b < w5.heap.size /\ (Value.slice vad k vcap).ownBlock ≠ some b) (fun b hb => ⟨by omega, hb.2, fun e2 => by have := hvb b e2; omega⟩);have hszA := ja.t.size;clear al j sa
   go_wp2_with (at_builtin; refine wpList_append_lies _ rfl (.tmp 13) (.tmp 16) 23 rfl w.heap.size 57 i0 _ 1 24 Tryz.underlying23 hi hz0 hz1 hz2 rfl (by omega) (.slice vad k vcap) k (ss.map L2V.v) (by rfl) (by have h := ja.o; rw [HK.out] at h; exact h) ⟨w5.heap.size, 0, none⟩ 1 1 [.slice ad N c] (by rfl) (by rfl) (World.news_of_block (cs := #[.slice ad N c]) (t := 57) (fr := (0, 0)) (heap_alloc_new w5 _)) (by simp [Value.oneCell']) (by omega) (by unfold maxLen; omega) (by omega) hszA (w5.heap.size + 1) (by rw [qA]) ?_)
   intro g9 cp9 w9 hown hgrow hat _;have jn := ja.app (s := ⟨ad, N, c, ls⟩) (H := w5.heap.size) HK.out hsa (by rw [qA]; omega) SZ hown hgrow (by rcases hat with h | h; exact .inl h; exact .inr (by omega));clear hown hgrow ja hsa SZ
   go_wp2
   go_roundw
   case rel => exact ⟨m - 1, ss ++ [⟨ad, N, c, ls⟩], q5, by go_num, by rw [qC, HK.out]; simp; omega, jn, by omega, by omega⟩
   case measure => simp [intOf]; omega
  have hm' : ¬ (0 : Int) < (m : Int) := by omega
  obtain ⟨vad, vcap, rfl⟩ := own_slice j.o
  go_wp2
  go_ret
  exact ⟨vad, ss.length, vcap, rfl, by first | exact ⟨ss, ⟨q, j, by first | exact ⟨rfl, by omega, by omega, by omega, by omega⟩ | omega⟩⟩ | (refine ⟨ss, ?_⟩; simp; exact ⟨q, j, by omega⟩)⟩
structure AcQ (P : Nat -> Prop) (W : World) (s : L2V) : Prop where
 len : s.x.length = s.n
 g : LinesG W s.a s.x
 n8 : s.n <= 8
 pa : ∀ b o, s.a = some ⟨b, o, none⟩ -> P b
 pf : ∀ i, i < s.x.length -> (∀ b o, (s.x[i]?.getD noLV).f.a = some ⟨b, o, none⟩ -> P b) /\ (∀ b o, (s.x[i]?.getD noLV).f.c = some ⟨b, o, none⟩ -> P b)
section
variable {P P' : Nat -> Prop} {W W' : World} {s : L2V}
theorem AcQ.touch (h : AcQ P W s) (t : Touch S W W') (hS : ∀ b, P b -> ¬ S b) : AcQ P W' s :=
 ⟨h.len, h.g.off t (fun b o e => hS b (h.pa b o e)) (fun i hi => ⟨fun b o e => hS b ((h.pf i hi).1 b o e), fun b o e => hS b ((h.pf i hi).2 b o e)⟩), h.n8, h.pa, h.pf⟩
theorem AcQ.below (h : AcQ P W s) (b : Below W.heap.size W W') : AcQ P W' s := ⟨h.len, h.g.below b, h.n8, h.pa, h.pf⟩
theorem AcQ.mono (h : AcQ P W s) (hP : ∀ b, P b -> P' b) : AcQ P' W s := ⟨h.len, h.g, h.n8, fun b o e => hP b (h.pa b o e), fun i hi => ⟨fun b o e => hP b ((h.pf i hi).1 b o e), fun b o e => hP b ((h.pf i hi).2 b o e)⟩⟩
theorem AcQ.lg (h : AcQ P W s) : LG W s := ⟨h.len, h.g, by have := h.n8; omega⟩
end
theorem AcP.q {P : Nat -> Prop} (h : AcP P W s) : AcQ P W s := ⟨h.len, h.g, by have := h.six; omega, h.pa, h.pf⟩
theorem JL.actq {wL : World} {q : Int} (j : JL wL R a n cap bs q (.slice ad N c) ls W) (hl : ls.length = N) (ho : N <= 8) : AcQ (fun b => wL.heap.size <= b /\ b < W.heap.size) W ⟨ad, N, c, ls⟩ := by
 refine ⟨hl, j.g hl, ho, fun b o e => ?_, fun i hi => ⟨fun b o e => ⟨(j.na i hi b o e).1, (j.na i hi b o e).2.1⟩, fun b o e => ⟨(j.nc i hi b o e).1, (j.nc i hi b o e).2.1⟩⟩⟩;have e' : ad = some ⟨b, o, none⟩ := e;subst e'
 exact j.o.lt b rfl
structure JBs (w : World) (R : Nat) (a : Option Addr) (n cap : Nat) (bs : List Int) (q : Int) (v : Value) (ss : List L2V) (W : World) : Prop where
 t : Touch (fun x => x = R) w W
 r : Rd W R a n cap bs q
 o : W.ownsRow w.heap.size 57 1 v ss.length (ss.map L2V.v)
 ac : ∀ i, i < ss.length -> AcQ (fun b => w.heap.size <= b /\ b < W.heap.size /\ v.ownBlock ≠ some b) W (ss[i]?.getD noL)
 lR : R < w.heap.size
 lb : 0 < n -> ∀ b o, a = some ⟨b, o, none⟩ -> b < w.heap.size
section
variable {w W W' : World} {R : Nat} {a : Option Addr} {n cap : Nat} {bs : List Int} {q : Int} {v : Value} {ss : List L2V}
theorem JBs.below (j : JBs w R a n cap bs q v ss W) (b : Below W.heap.size W W') : JBs w R a n cap bs q v ss W' :=
 ⟨j.t.trans (Touch.of b), j.r.below b, own_belowL j.o b, fun i hi => ((j.ac i hi).below b).mono (fun x h => ⟨h.1, Nat.lt_of_lt_of_le h.2.1 b.size, h.2.2⟩), j.lR, j.lb⟩
theorem JBs.pick {q' : Int} (j : JBs w R a n cap bs q v ss W) (t : Touch (fun x => x = R) W W') (r : Rd W' R a n cap bs q') : JBs w R a n cap bs q' v ss W' := by
 have lR := j.lR
 exact ⟨j.t.trans t, r, ownsRow_touch j.o t (fun k h => by omega), fun i hi => ((j.ac i hi).touch t (fun b h => by omega)).mono (fun x h => ⟨h.1, Nat.lt_of_lt_of_le h.2.1 t.size, h.2.2⟩), j.lR, j.lb⟩
theorem JBs.app {H : Nat} (j : JBs w R a n cap bs q v ss W) (hk : ss.length = k) (hs : AcQ (fun b => w.heap.size <= b /\ b < H /\ v.ownBlock ≠ some b) W s) (hH : H <= W.heap.size) (hsz : ∀ i, i < ss.length -> AcQ (fun b => b < H) W (ss[i]?.getD noL))
  (hown : W'.ownsRow w.heap.size 57 1 (.slice (some ⟨g, 0, none⟩) (k + 1) c) (k + 1) (ss.map L2V.v ++ [s.v])) (hg : W.grownBy W' v.ownBlock) (hat : v.ownBlock = some g \/ H <= g) : JBs w R a n cap bs q (.slice (some ⟨g, 0, none⟩) (k + 1) c) (ss ++ [s]) W' := by
 have hr : ∀ x, v.ownBlock = some x -> w.heap.size <= x := fun x hx => (j.o.lt x hx).1;have lR := j.lR;have T : Touch (fun x => v.ownBlock = some x) W W' := ⟨hg.os, hg.tape, hg.output, hg.size, fun x hx hs => hg.block x hx (fun e => hs e.symm)⟩
 have hn : ∀ b, v.ownBlock ≠ some b -> b < H -> (Value.slice (some ⟨g, 0, none⟩) (k + 1) c).ownBlock ≠ some b := fun b h1 h2 e => by
  simp only [Value.ownBlock, Option.some.injEq] at e
  rcases hat with h | h
  ·rw [h] at h1; exact h1 (by rw [e])
  omega
 have hs' := hg.size;refine ⟨j.t.grown hg hr, j.r.touch T (fun e => by have := hr _ e; omega) (fun h0 b o hab e => by have := j.lb h0 b o hab; have := hr _ e; omega), ?_, fun i hi => ?_, j.lR, j.lb⟩
 ·rw [qC, hk, List.map_append];simpa using hown
 by_cases h : i < ss.length
 ·rw [List.getElem?_append_left h];have h1 := (j.ac i h).touch T (fun b hb => hb.2.2);have h2 := hsz i h
  exact ⟨h1.len, h1.g, h1.n8, fun b o e => ⟨(h1.pa b o e).1, by have := h2.pa b o e; omega, hn b (h1.pa b o e).2.2 (h2.pa b o e)⟩, fun m hm => ⟨fun b o e => ⟨((h1.pf m hm).1 b o e).1, by have := (h2.pf m hm).1 b o e; omega, hn b ((h1.pf m hm).1 b o e).2.2 ((h2.pf m hm).1 b o e)⟩, fun b o e => ⟨((h1.pf m hm).2 b o e).1, by have := (h2.pf m hm).2 b o e; omega, hn b ((h1.pf m hm).2 b o e).2.2 ((h2.pf m hm).2 b o e)⟩⟩⟩
 have : i = ss.length := by rw [qC] at hi; simp at hi; omega
 subst this;have e : (ss ++ [s])[ss.length]?.getD noL = s := by simp
 rw [e]
 exact (hs.touch T (fun b hb => hb.2.2)).mono (fun b hb => ⟨hb.1, by omega, hn b hb.2.2 hb.2.1⟩)
end
theorem JAs.q {q : Int} {v : Value} (j : JAs w R a n cap bs q v ss W) : JBs w R a n cap bs q v ss W := ⟨j.t, j.r, j.o, fun i hi => (j.ac i hi).q, j.lR, j.lb⟩
theorem getL_set {i : Nat} (hk : 0 < ss.length) : (ss.set 0 s)[i]?.getD noL = if i = 0 then s else ss[i]?.getD noL := by
 by_cases h : i = 0
 ·subst h; rw [List.getElem?_set_self hk]; rfl
 rw [List.getElem?_set_ne (fun e => h e.symm), if_neg h]
theorem JBs.set0 {q : Int} (j : JBs w R a n cap bs q (.slice (some ⟨g, 0, none⟩) N c) ss W) (hN : ss.length = N) (h0 : 0 < ss.length) (hs : AcQ (fun b => w.heap.size <= b /\ b < W.heap.size /\ g ≠ b) W s) : JBs w R a n cap bs q (.slice (some ⟨g, 0, none⟩) N c) (ss.set 0 s) (W.setCell ⟨g, 0, none⟩ s.v) := by
 have hg := j.o.lt g rfl;have lR := j.lR;have T : Touch (fun x => x = g) W (W.setCell ⟨g, 0, none⟩ s.v) := Touch.setCell (S := fun x => x = g) (Touch.refl _ _) rfl _;have o := j.o;rw [hN] at o;have hsz : (W.setCell ⟨g, 0, none⟩ s.v).heap.size = W.heap.size := size_setCell _ _ _;refine ⟨j.t.setNewF hg.1 _ _, j.r.touch T (by omega) (fun h0 b o e h => by have := j.lb h0 b o e; omega), ?_, fun i hi => ?_, j.lR, j.lb⟩
 ·rw [List.length_set, hN, List.map_set]
  exact (World.ownsRow.stored o 0 s.v).1
 rw [List.length_set] at hi;rw [getL_set h0]
 by_cases h : i = 0
 ·rw [if_pos h]
  exact (hs.touch T (fun b hb e => hb.2.2 e.symm)).mono (fun b hb => ⟨hb.1, by omega, fun e => hb.2.2 (by simpa [Value.ownBlock] using e)⟩)
 rw [if_neg h]
 exact ((j.ac i hi).touch T (fun b hb e => hb.2.2 (by rw [e]; rfl))).mono (fun b hb => ⟨hb.1, by omega, hb.2.2⟩)
theorem JBs.some {q : Int} (j : JBs w R a n cap bs q (.slice ad N c) ss W) (h0 : 0 < ss.length) : ∃ g, ad = some ⟨g, 0, none⟩ := by
 rcases j.o.2 with ⟨_, h⟩ | ⟨g, cap', cur, hv, _⟩
 ·omega
 simp only [Value.slice.injEq] at hv
 exact ⟨g, hv.1⟩
theorem anyacts_f (R : Nat) (a : Option Addr) (n cap : Nat) (bs : List Int) (p M : Int) {w : World} (rd : Rd w R a n cap bs p) (hp : 0 <= p) (hp1 : p <= 5000000) (hM : 1 <= M) (hM1 : M <= 1000) (ha : 0 < n -> ∀ b o, a = some ⟨b, o, none⟩ -> b < w.heap.size) :
  Calls Tryz.prog 84 #[.pointer (some ⟨R, 0, none⟩), .int .i64 M] w fun e w' => ∃ ad N c ss q, e = .returned (.slice ad N c) /\ JBs w R a n cap bs q (.slice ad N c) ss w' /\ ss.length = N /\ N <= 5 /\ p <= q /\ q <= p + 500 := by
 have hRl := rd.c.lt;obtain ⟨i0, hi, hz0, hz1, hz2⟩ := info_parts Tryz.infoLns
 go_enter Tryz.func84, Tryz.ntmps84
 go_wp2_with fail
 refine (acts_f R a n cap bs p rd hp (by omega) ha).mono ?_;rintro e w1 ⟨ad, N, c, ss, q, rfl, j', hN, hN1, hN4, q0, q1⟩;have j := j'.q;have HN : Hid (ss.length = N) := hN;clear hN rd j';obtain ⟨g, rfl⟩ := j.some (by rw [HN.out]; omega)
 go_wp2_with fail
 refine (pick_any R a n cap bs (q) M j.r).mono ?_;rintro e w2 ⟨ru, hu0, hu1, rfl, t5, R5⟩;obtain ⟨u, rfl⟩ := Int.eq_ofNat_of_zero_le hu0;replace j := j.pick t5 R5;clear t5 R5 hu0
 by_cases hu : 0 < u
 ·have hu' : (0 : Int) < (u : Int) := by omega
  go_wp2
  go_ret
  exact ⟨_, N, c, ss, _, rfl, j, HN.out, by omega, by omega, by omega⟩
 have hu' : ¬ (0 : Int) < (u : Int) := by omega
 go_wp2_with fail
 refine (pick_any R a n cap bs (q + 1) 3 j.r).mono ?_;rintro e w3 ⟨rs, hs0, hs1, rfl, t5, R5⟩;obtain ⟨s, rfl⟩ := Int.eq_ofNat_of_zero_le hs0;replace j := j.pick t5 R5;clear t5 R5 hs0
 rcases (show s = 0 \/ s = 1 \/ s = 2 from by omega) with rfl | rfl | rfl
 ·have hgW := (j.o.lt g rfl).2;have hlo := j.t.size;have hN' : (0 : Int) < (N : Int) := by omega
  go_wp2_with fail
  refine (any_f R a n cap bs (q + 1 + 1) 1 j.r (by omega) (by omega) (by omega) (by omega) j.r.ha).mono ?_;rintro e w4 ⟨ad4, N4, c4, ls4, q4, rfl, jl, hl4, hn8, y0, y1⟩;have sa := jl.actq hl4 hn8;replace j := j.pick jl.t jl.r;clear jl;have o := j.o;rw [HN.out] at o;have cc := o.cellAt 0 (by omega);rw [List.getElem?_map, qB (by rw [HN.out]; omega)] at cc;have ff : w4.frozen? ⟨g, 0, none⟩ = false := o.frozenAt _;obtain ⟨s0, hs0⟩ : ∃ s0 : L2V, s0 = ss[0]'(by rw [HN.out]; omega) := ⟨_, rfl⟩
  rw [<- hs0] at cc;have cc' : w4.cell? ⟨g, 0, none⟩ = some (.slice s0.a s0.n s0.cap) := cc;clear cc o hs0;have j9 := j.set0 (s := ⟨ad4, N4, c4, ls4⟩) HN.out (by rw [HN.out]; omega) (sa.mono (fun b hb => ⟨by omega, hb.2, by omega⟩));clear j sa
  go_wp2
  go_ret
  exact ⟨_, N, c, _, _, rfl, j9, by rw [List.length_set]; exact HN.out, by omega, by omega, by omega⟩
 ·have hlo := j.t.size;have al := (Below.refl w3.heap.size w3).alloc (qE _) (.cells #[] 57);have o0 := World.ownsRow_lit (base := w.heap.size) (e := 57) (size := 1) w3 #[] 0 hlo (by unfold maxLen; omega) rfl;have j9 : JBs w R a n cap bs (q + 1 + 1) (.slice (some ⟨w3.heap.size, 0, none⟩) 0 0) [] (w3.alloc (.cells #[] 57)) := ⟨j.t.trans (Touch.of al), j.r.below al, o0, fun i hi => by simp at hi, j.lR, j.lb⟩
  clear al o0 j
  go_wp2
  go_ret
  exact ⟨_, 0, 0, _, _, rfl, j9, rfl, by omega, by omega, by omega⟩
 go_wp2_with fail
 go_loopw [5] (fun v wr => ∃ (g' N' c' : Nat) (ss' : List L2V) (q' : Int), v = .slice (some ⟨g', 0, none⟩) N' c' /\ N <= N' /\ N' <= 5 /\ ss'.length = N' /\ q' = q + 1 + 1 /\ JBs w R a n cap bs q' v ss' wr) (fun v _ => 8 - (lenOf v))
 case atStart => exact ⟨g, N, c, ss, _, rfl, by omega, by omega, HN.out, rfl, j⟩
 case round =>
  clear j;obtain ⟨g', N', c', ss', q', rfl, hNN, hN7, hL, hq', j⟩ := hrel;have HL : Hid (ss'.length = N') := hL;clear hL
  by_cases h7 : N' <= 4
  ·have h7' : (N' : Int) <= 4 := by omega
   have hkN2 : (0 : Int) < (N' : Int) := by omega
   have hkl : 0 < ss'.length := by rw [HL.out]; omega
   have o := j.o;rw [HL.out] at o;have cc := o.cellAt 0 (by omega);rw [List.getElem?_map, qB hkl] at cc;obtain ⟨s0, hs0⟩ : ∃ s0 : L2V, s0 = ss'[0]?.getD noL := ⟨_, rfl⟩
   have es : ss'[0] = s0 := by rw [hs0, qB hkl]; rfl
   rw [es] at cc;have cc' : wr.cell? ⟨g', 0, none⟩ = some (.slice s0.a s0.n s0.cap) := cc;clear cc o es;have hsa := j.ac 0 hkl;rw [<- hs0] at hsa;clear hs0;have SZ : ∀ i, i < ss'.length -> AcQ (fun b => b < wr.heap.size) (wr.alloc (.cells #[.slice s0.a s0.n s0.cap] 57)) (ss'[i]?.getD noL) := fun i hi => ((j.ac i hi).mono (fun b hb => hb.2.1)).below ((Below.refl wr.heap.size wr).alloc (qE _) _);have al := (Below.refl wr.heap.size wr).alloc (qE _) (.cells #[.slice s0.a s0.n s0.cap] 57);have ja := j.below al;replace hsa := hsa.below al;have hszA := ja.t.size;clear al j
   go_wp2_with (at_builtin; refine wpList_append_lies _ rfl (.tmp 18) (.tmp 22) 23 rfl w.heap.size 57 i0 _ 1 24 Tryz.underlying23 hi hz0 hz1 hz2 rfl (by omega) (.slice (some ⟨g', 0, none⟩) N' c') N' (ss'.map L2V.v) (by rfl) (by have h := ja.o; rw [HL.out] at h; exact h) ⟨wr.heap.size, 0, none⟩ 1 1 [.slice s0.a s0.n s0.cap] (by rfl) (by rfl) (World.news_of_block (cs := #[.slice s0.a s0.n s0.cap]) (t := 57) (fr := (0, 0)) (heap_alloc_new wr _)) (by simp [Value.oneCell']) (by omega) (by unfold maxLen; omega) (by omega) hszA (wr.heap.size + 1) (by rw [qA]) ?_)
   intro g9 cp9 w9 hown hgrow hat9 _;have jn := ja.app (s := s0) (H := wr.heap.size) HL.out hsa (by rw [qA]; omega) SZ hown hgrow (by rcases hat9 with h | h; exact .inl h; exact .inr (by omega));clear hown hgrow ja hsa SZ cc'
   go_wp2
   go_roundw
   case rel => exact ⟨g9, N' + 1, cp9, ss' ++ [s0], _, rfl, by omega, by omega, by rw [qC, HL.out]; rfl, hq', jn⟩
   case measure => simp [lenOf]; omega
  have h7' : ¬ (N' : Int) <= 4 := by omega
  go_wp2
  go_ret
  exact ⟨_, N', c', rfl, by first | exact ⟨ss', ⟨q', j, by first | exact ⟨HL.out, by omega, by omega, by omega⟩ | omega⟩⟩ | (refine ⟨ss', ?_⟩; simp [HL.out]; exact ⟨q', j, by omega⟩) | (refine ⟨ss', ⟨q', j, ?_⟩, HL.out, ?_⟩ <;> omega)⟩
def L2V.ok (s : L2V) : Bool := actB s.n s.x
def catB (N : Nat) (ss : List L2V) : Bool := inB N 1 4 && ss.all L2V.ok
theorem allC_take_succ {ls : List L2V} (h : k < ls.length) (h1 : (ls.take k).all L2V.ok = true) (h2 : (ls[k]?.getD noL).ok = true) : (ls.take (k + 1)).all L2V.ok = true := by
 rw [List.take_succ_eq_append_getElem h, List.all_append, h1];rw [qB h] at h2;simpa using h2
theorem allC_no {ls : List L2V} (h : k < ls.length) (h2 : (ls[k]?.getD noL).ok = false) : ls.all L2V.ok = false := by
 rw [List.all_eq_false];rw [qB h] at h2
 exact ⟨ls[k], List.getElem_mem h, by simpa using h2⟩
theorem scat_any (ss : List L2V) {w : World} (hN : ss.length = N) (hF : LSG w ad ss) (hN1 : N <= 1048576) :
  Calls Tryz.prog 48 #[.slice ad N cap] w fun e w' => e = .returned (.bool (catB N ss)) /\ Below w.heap.size w w' := by
 have HN : Hid (ss.length = N) := hN;clear hN
 cases hib : inB N 1 4
 ·go_enter Tryz.func48, Tryz.ntmps48
  go_wp2_with fail
  refine (in_any).mono ?_;rintro e w1 ⟨rfl, rfl⟩;rw [hib]
  go_wp2
  go_ret
  exact ⟨ret_bool (by rw [catB, hib]; rfl), Below.refl _ _⟩
 go_enter Tryz.func48, Tryz.ntmps48
 go_wp2_with fail
 refine (in_any).mono ?_;rintro e w1 ⟨rfl, hw1⟩;rw [hib, hw1];clear hw1
 go_wp2_with fail
 have HCB : Hid (catB N ss = ss.all L2V.ok) := by show catB N ss = _; rw [catB, hib]; rfl
 go_loopw [3] (fun  i wr => ∃ k : Nat, k <= N /\ i = .int .i64 k /\ Below w.heap.size w wr /\ (ss.take k).all L2V.ok = true) (fun i _ => N - (intOf i).toNat)
 case atStart => exact ⟨0, qF _, rfl, Below.refl _ _, by simp⟩
 case round =>
  obtain ⟨k, hk, rfl, hb, hall⟩ := hrel;have HA : Hid ((ss.take k).all L2V.ok = true) := hall;clear hall
  by_cases hlt : k < N
  ·obtain ⟨b, off, rfl, hc, hr⟩ := (hF.below hb) k (by rw [HN.out]; exact hlt);generalize HG : ss[k]?.getD noL = g at *;have HG' : Hid (ss[k]?.getD noL = g) := HG;clear HG hF;obtain ⟨ga, gn, gcap, gx⟩ := g;have hc' : wr.cell? ⟨b, off + k, none⟩ = some (.slice ga gn gcap) := hc;clear hc
   cases hf : actB gn gx
   ·go_wp2_with fail
    refine (sact_any _ _ gx hr.1 hr.2.1 hr.2.2).mono ?_;rintro e w1 ⟨rfl, b1⟩;rw [hf]
    go_wp2
    go_ret
    exact ⟨ret_bool (by rw [HCB.out, allC_no (k := k) (by rw [HN.out]; exact hlt) (by rw [HG'.out]; exact hf)]), btr hb b1⟩
   go_wp2_with fail
   refine (sact_any _ _ gx hr.1 hr.2.1 hr.2.2).mono ?_;rintro e w1 ⟨rfl, b1⟩;rw [hf]
   go_wp2
   go_roundw
   case rel => exact ⟨k + 1, by omega, by go_num, btr hb b1, allC_take_succ (by rw [HN.out]; exact hlt) HA.out (by rw [HG'.out]; exact hf)⟩
   case measure => simp [intOf]; omega
  go_wp2
  go_ret
  exact ⟨ret_bool (by rw [HCB.out]; have := HA.out; rw [qD (by rw [HN.out]; omega)] at this; exact this.symm), hb⟩
theorem icat_any (ad : Option Addr) (N cap : Nat) (ss : List L2V) {w : World} (hN : ss.length = N) (hF : LSG w ad ss) (hN1 : N <= 1048576) :
  Calls Tryz.prog 86 #[.slice ad N cap] w fun e w' => e = .returned (.bool (catB N ss)) /\ Below w.heap.size w w' := by
 have HN : Hid (ss.length = N) := hN;clear hN
 by_cases h1 : N < 1
 ·have hib : inB N 1 4 = false := inB_not.2 (by omega)
  go_enter Tryz.func86, Tryz.ntmps86
  go_wp2
  go_ret
  exact ⟨ret_bool (by rw [catB, hib]; rfl), Below.refl _ _⟩
 by_cases h4 : 4 < N
 ·have hib : inB N 1 4 = false := inB_not.2 (by omega)
  go_enter Tryz.func86, Tryz.ntmps86
  go_wp2
  go_ret
  exact ⟨ret_bool (by rw [catB, hib]; rfl), Below.refl _ _⟩
 have hib : inB N 1 4 = true := inB_iff.2 (by omega)
 go_enter Tryz.func86, Tryz.ntmps86
 go_wp2_with fail
 have HCB : Hid (catB N ss = ss.all L2V.ok) := by show catB N ss = _; rw [catB, hib]; rfl
 go_loopw [4, 15] (fun _ i wr => ∃ k : Nat, k <= N /\ i = .int .i64 k /\ Below w.heap.size w wr /\ (ss.take k).all L2V.ok = true) (fun _ i _ => N - (intOf i).toNat)
 case atStart => exact ⟨0, qF _, rfl, Below.refl _ _, by simp⟩
 case round =>
  obtain ⟨k, hk, rfl, hb, hall⟩ := hrel;have HA : Hid ((ss.take k).all L2V.ok = true) := hall;clear hall
  by_cases hlt : k < N
  ·obtain ⟨b, off, rfl, hc, hr⟩ := (hF.below hb) k (by rw [HN.out]; exact hlt);generalize HG : ss[k]?.getD noL = g at *;have HG' : Hid (ss[k]?.getD noL = g) := HG;clear HG hF;obtain ⟨ga, gn, gcap, gx⟩ := g;have hc' : wr.cell? ⟨b, off + k, none⟩ = some (.slice ga gn gcap) := hc;clear hc
   cases hf : actB gn gx
   ·go_wp2_with fail
    refine (iact_any _ _ _ gx hr.1 hr.2.1 hr.2.2).mono ?_;rintro e w1 ⟨rfl, b1⟩;rw [hf]
    go_wp2
    go_ret
    exact ⟨ret_bool (by rw [HCB.out, allC_no (k := k) (by rw [HN.out]; exact hlt) (by rw [HG'.out]; exact hf)]), btr hb b1⟩
   go_wp2_with fail
   refine (iact_any _ _ _ gx hr.1 hr.2.1 hr.2.2).mono ?_;rintro e w1 ⟨rfl, b1⟩;rw [hf]
   go_wp2
   go_roundw
   case rel => exact ⟨k + 1, by omega, by go_num, btr hb b1, allC_take_succ (by rw [HN.out]; exact hlt) HA.out (by rw [HG'.out]; exact hf)⟩
   case measure => simp [intOf]; omega
  go_wp2
  go_ret
  exact ⟨ret_bool (by rw [HCB.out]; have := HA.out; rw [qD (by rw [HN.out]; omega)] at this; exact this.symm), hb⟩
abbrev treV (a : Option Addr) (n cap : Nat) (c : Option Addr) (m cap' : Nat) : Value := .agg #[.slice a n cap, .slice c m cap']
structure IV where
 a : Option Addr
 n : Nat
 cap : Nat
 x : List Int
def noI : IV := ⟨none, 0, 0, []⟩
def IV.v (s : IV) : Value := .slice s.a s.n s.cap
def IM (w : World) (s : IV) : Prop := Ints w s.a s.n s.x /\ s.n <= maxLen
def IG (w : World) (s : IV) : Prop := Ints w s.a s.n s.x /\ s.n <= 1048576
def copiesI (s t : IV) : Prop := t.n = s.n /\ t.x = s.x
theorem IG.below {s : IV} (h : IG w s) (hb : Below w.heap.size w w') : IG w' s := ⟨h.1.below hb, h.2⟩
def ISG (w : World) (ad : Option Addr) (ss : List IV) : Prop :=
 ∀ i, i < ss.length -> ∃ b off, ad = some ⟨b, off, none⟩ /\ w.cell? ⟨b, off + i, none⟩ = some (ss[i]?.getD noI).v /\ IG w (ss[i]?.getD noI)
theorem ISG.below {ss : List IV} (h : ISG w ad ss) (hb : Below w.heap.size w w') : ISG w' ad ss := fun i hi => by
 obtain ⟨b, off, e, hc, hr⟩ := h i hi
 exact ⟨b, off, e, by rw [hb.cell (p := ⟨b, off + i, none⟩) (block_lt hc)]; exact hc, hr.below hb⟩
def copiesIS (ss ts : List IV) : Prop := ∀ i, i < ts.length -> copiesI (ss[i]?.getD noI) (ts[i]?.getD noI)
theorem Tryz.infoI : (Tryz.prog.info? 24).map (fun i => (i.zero, i.size, i.bytes)) = some (some (.slice none 0 0), 1, 24) := by kernel_rfl
def trtB (n m : Nat) (C D : List Int) : Bool := okN 3 10000 n C && (inB m 1 3 && betB 0 50 D)
theorem strt_any {c : Option Addr} {m cap' : Nat} (C D : List Int) {w : World} (hC : Ints w a n C) (hD : Ints w c m D) (hn : n <= 1048576) (hm : m <= 1048576) :
  Calls Tryz.prog 50 #[treV a n cap c m cap'] w fun e w' => e = .returned (.bool (trtB n m C D)) /\ Below w.heap.size w w' := by
 have HD : Hid (D.length = m) := hD.1
 cases h1 : okN 3 10000 n C
 ·go_enter Tryz.func50, Tryz.ntmps50
  go_wp2_with fail
  refine (sval_any C (hC.alloc _) hn).mono ?_;rintro e w1 ⟨rfl, rfl⟩
  go_wp2
  go_ret
  exact ⟨ret_bool (by simp [trtB, h1]), bal⟩
 cases h2 : inB m 1 3
 ·go_enter Tryz.func50, Tryz.ntmps50
  go_wp2_with fail
  refine (sval_any C (hC.alloc _) hn).mono ?_;rintro e w1 ⟨rfl, rfl⟩
  go_wp2_with fail
  refine (in_any).mono ?_;rintro e w1 ⟨rfl, rfl⟩
  go_wp2
  go_ret
  exact ⟨ret_bool (by simp [trtB, h2]), bal⟩
 go_enter Tryz.func50, Tryz.ntmps50
 go_wp2_with fail
 refine (sval_any C (hC.alloc _) hn).mono ?_;rintro e w1 ⟨rfl, rfl⟩
 go_wp2_with fail
 refine (in_any).mono ?_;rintro e w1 ⟨rfl, rfl⟩
 go_wp2_with fail
 go_loop [3] (fun i => ∃ k : Nat, k <= m /\ i = .int .i64 k /\ betB 0 50 (D.take k) = true) (fun i => m - (intOf i).toNat)
 case atStart => exact ⟨0, qF _, rfl, rfl⟩
 case round =>
  obtain ⟨k, hk, rfl, hall⟩ := hrel;have HA : Hid (betB 0 50 (D.take k) = true) := hall;clear hall
  by_cases hlt : k < m
  ·obtain ⟨b, off, rfl, hcell⟩ := (hD.alloc (.cells #[.slice a n cap, .slice c m cap'] 92 (0, 0))).pos (by omega);have hck := hcell k hlt;clear hcell hC hD
   cases hin : inB (D[k]?.getD 0) 0 50
   ·go_wp2_with fail
    refine (in_any).mono ?_;rintro e w1 ⟨rfl, rfl⟩
    go_wp2
    go_ret
    exact ⟨ret_bool (by rw [trtB, betB_false (by rw [HD.out]; exact hlt) hin]; simp), bal⟩
   go_wp2_with fail
   refine (in_any).mono ?_;rintro e w1 ⟨rfl, rfl⟩
   go_wp2
   go_round
   case rel => exact ⟨k + 1, by omega, by go_num, betB_step (by rw [HD.out]; exact hlt) HA.out hin⟩
   case measure => simp [intOf]; omega
  go_wp2
  go_ret
  exact ⟨ret_bool (by rw [trtB, h1, h2, betB_end (by rw [HD.out]; omega) HA.out]; rfl), bal⟩
theorem itrt_any {c : Option Addr} {m cap' : Nat} (C D : List Int) {w : World} (hC : Ints w a n C) (hD : Ints w c m D) (hn : n <= 1048576) (hm : m <= 1048576) :
  Calls Tryz.prog 87 #[treV a n cap c m cap'] w fun e w' => e = .returned (.bool (trtB n m C D)) /\ Below w.heap.size w w' := by
 cases h1 : okN 3 10000 n C
 ·go_enter Tryz.func87, Tryz.ntmps87
  go_wp2_with fail
  refine (ival_any C (hC.alloc _) hn).mono ?_;rintro e w1 ⟨rfl, rfl⟩
  go_wp2
  go_ret
  exact ⟨ret_bool (by simp [trtB, h1]), bal⟩
 by_cases h2 : 1 <= m
 ·by_cases h3 : m <= 3
  ·have h4 : inB m 1 3 = true := inB_iff.2 ⟨by omega, by omega⟩;have H4 : Hid _ := h4;clear h4
   go_enter Tryz.func87, Tryz.ntmps87
   go_wp2_with fail
   refine (ival_any C (hC.alloc _) hn).mono ?_;rintro e w1 ⟨rfl, rfl⟩
   go_wp2_with fail
   refine (between_any D _ _ (hD.alloc _) hm).mono ?_;rintro e w1 ⟨rfl, rfl⟩
   go_wp2
   go_ret
   exact ⟨ret_bool (by rw [trtB, h1, H4.out]; rfl), bal⟩
  have h4 : inB m 1 3 = false := inB_not.2 (by omega);have H4 : Hid _ := h4;clear h4
  go_enter Tryz.func87, Tryz.ntmps87
  go_wp2_with fail
  refine (ival_any C (hC.alloc _) hn).mono ?_;rintro e w1 ⟨rfl, rfl⟩
  go_wp2
  go_ret
  exact ⟨ret_bool (by rw [trtB, H4.out]; simp), bal⟩
 have h4 : inB m 1 3 = false := inB_not.2 (by omega);have H4 : Hid _ := h4;clear h4
 go_enter Tryz.func87, Tryz.ntmps87
 go_wp2_with fail
 refine (ival_any C (hC.alloc _) hn).mono ?_;rintro e w1 ⟨rfl, rfl⟩
 go_wp2
 go_ret
 exact ⟨ret_bool (by rw [trtB, H4.out]; simp), bal⟩
def others (D : List Int) (s : Int) : Nat -> Int
 | 0 => 0
 | k + 1 => if (k : Int) = s then others D s k else wrap64 (others D s k + D[k]?.getD 0)
def partsB (ss : List IV) : Bool := ss.all fun s => okN 3 10000000 s.n s.x
theorem partsB_step {ss : List IV} (h : k < ss.length) (h1 : partsB (ss.take k) = true) (h2 : okN 3 10000000 (ss[k]?.getD noI).n (ss[k]?.getD noI).x = true) : partsB (ss.take (k + 1)) = true := by
 unfold partsB at *;rw [List.take_succ_eq_append_getElem h, List.all_append, h1];rw [qB h] at h2;simpa using h2
theorem partsB_end {ss : List IV} (h : ss.length <= k) (h1 : partsB (ss.take k) = true) : partsB ss = true := by
 rwa [qD h] at h1
theorem partsB_false {ss : List IV} (h : k < ss.length) (hn : okN 3 10000000 (ss[k]?.getD noI).n (ss[k]?.getD noI).x = false) : partsB ss = false := by
 unfold partsB;rw [List.all_eq_false];refine ⟨ss[k], List.getElem_mem h, ?_⟩;rw [qB h] at hn;simpa using hn
theorem partsB_at {ss : List IV} (h : k < ss.length) (hp : partsB ss = true) : okN 3 10000000 (ss[k]?.getD noI).n (ss[k]?.getD noI).x = true := by
 cases hn : okN 3 10000000 (ss[k]?.getD noI).n (ss[k]?.getD noI).x
 ·rw [partsB_false h hn] at hp; cases hp
 rfl
theorem iparts_any (ss : List IV) {w : World} (hN : ss.length = N) (hF : ISG w ad ss) (hN1 : N <= 1048576) :
  Calls Tryz.prog 153 #[.slice ad N cap] w fun e w' => e = .returned (.bool (partsB ss)) /\ w' = w := by
 have HN : Hid (ss.length = N) := hN;clear hN
 go_enter Tryz.func153, Tryz.ntmps153
 go_wp2_with fail
 go_loop [4, 7] (fun _ i => ∃ k : Nat, k <= N /\ i = .int .i64 k /\ partsB (ss.take k) = true) (fun _ i => N - (intOf i).toNat)
 case atStart => exact ⟨0, qF _, rfl, rfl⟩
 case round =>
  obtain ⟨k, hk, rfl, hall⟩ := hrel;have HA : Hid _ := hall;clear hall
  by_cases hlt : k < N
  ·obtain ⟨b, off, rfl, hc, hr⟩ := hF k (by rw [HN.out]; exact hlt);have H1 : Hid _ := partsB_step (ss := ss) (k := k) (by rw [HN.out]; exact hlt) HA.out;have H2 : Hid _ := partsB_false (ss := ss) (k := k) (by rw [HN.out]; exact hlt);generalize HG : ss[k]?.getD noI = g at *;clear HG hF HA;obtain ⟨ga, gn, gcap, gx⟩ := g;have hc' : w.cell? ⟨b, off + k, none⟩ = some (.slice ga gn gcap) := hc;clear hc
   by_cases hn3 : (gn : Int) = 3
   ·have hn3' : ((gn : Int) != 3) = false := by simp [hn3]
    have H3 : Hid ((gn : Int) = 3) := hn3;clear hn3
    cases he : allB 10000000 gx
    ·go_wp2_with fail
     refine (within_any _ _ _ gx hr.1 hr.2).mono ?_;rintro e w1 ⟨rfl, rfl⟩;rw [he]
     go_wp2
     go_ret
     exact ⟨ret_bool (by rw [H2.out (by rw [okN_is H3.out, he])]), rfl⟩
    go_wp2_with fail
    refine (within_any _ _ _ gx hr.1 hr.2).mono ?_;rintro e w1 ⟨rfl, rfl⟩;rw [he]
    go_wp2
    go_round
    case rel => exact ⟨k + 1, by omega, by go_num, H1.out (by rw [okN_is H3.out, he])⟩
    case measure => simp [intOf]; omega
   have hn3' : ((gn : Int) != 3) = true := by simp [hn3]
   have H3 : Hid (¬ (gn : Int) = 3) := hn3;clear hn3
   go_wp2
   go_ret
   exact ⟨ret_bool (by rw [H2.out (okN_not H3.out)]), rfl⟩
  go_wp2
  go_ret
  exact ⟨ret_bool (by rw [partsB_end (by rw [HN.out]; omega) HA.out]), rfl⟩
theorem imay_any (zs : List Int) {w : World} (h : Ints w a n zs) (hn : n <= 1048576) :
  Calls Tryz.prog 154 #[.slice a n cap] w fun e w' => e = .returned (.bool (okN 3 20000 n zs)) /\ w' = w := by
 by_cases hc : (n : Int) = 3
 ·have hc' : ((n : Int) == 3) = true := by simp [hc]
  have HC : Hid ((n : Int) = 3) := hc;clear hc
  go_enter Tryz.func154, Tryz.ntmps154
  go_wp2_with fail
  refine (within_any _ _ _ zs h hn).mono ?_;rintro e w' ⟨rfl, rfl⟩
  go_wp2
  go_ret
  exact ⟨ret_bool (by rw [okN_is HC.out]), rfl⟩
 have hc' : ((n : Int) == 3) = false := by simpa using hc
 go_enter Tryz.func154, Tryz.ntmps154
 go_wp2
 go_ret
 exact ⟨ret_bool (by rw [okN_not hc]), rfl⟩
abbrev plV (cl : Int) (ad : Option Addr) (N cap : Nat) (ga : Option Addr) (gn gc : Nat) (sa : Option Addr) (sn sc : Nat) : Value := .agg #[.int .i64 cl, .slice ad N cap, .slice ga gn gc, .slice sa sn sc]
structure PlAt (w : World) (ad : Option Addr) (N : Nat) (ss : List L2V) (ga : Option Addr) (gn : Nat) (G : List Int) (sa : Option Addr) (sn : Nat) (S : List Int) : Prop where
 a : LSG w ad ss
 ha : ss.length = N
 za : N <= 1048576
 g : Ints w ga gn G
 zg : gn <= 1048576
 s : Ints w sa sn S
 zs : sn <= 1048576
theorem PlAt.below {ga : Option Addr} {gn : Nat} {G : List Int} {sa : Option Addr} {sn : Nat} {S : List Int} (h : PlAt w ad N ss ga gn G sa sn S) (b : Below w.heap.size w w') : PlAt w' ad N ss ga gn G sa sn S :=
 ⟨h.a.below b, h.ha, h.za, h.g.below b, h.zg, h.s.below b, h.zs⟩
theorem PlAt.alloc {ga : Option Addr} {gn : Nat} {G : List Int} {sa : Option Addr} {sn : Nat} {S : List Int} (h : PlAt w ad N ss ga gn G sa sn S) (o : Obj) : PlAt (w.alloc o) ad N ss ga gn G sa sn S :=
 h.below (bal)
theorem Cel.quadP {x y z u : Value} {t : TypeId} (h : Cel w B [x, y, z, u] t) : w.cell? ⟨B, 0, none⟩ = some x /\ w.cell? ⟨B, 1, none⟩ = some y /\ w.cell? ⟨B, 2, none⟩ = some z /\ w.cell? ⟨B, 3, none⟩ = some u := ⟨h.cell 0, h.cell 1, h.cell 2, h.cell 3⟩
structure BP (w : World) (B : Nat) (la : List Value) (ty : TypeId) (W : World) : Prop where
 p : Cel W B la ty
 b : Below w.heap.size w W
theorem BP.new (w : World) (la : List Value) (ty : TypeId) : BP w w.heap.size la ty (w.alloc (.cells la.toArray ty)) := ⟨Cel.new w la ty, bal⟩
theorem BP.below {W' : World} {la : List Value} {ty : TypeId} (h : BP w B la ty W) (b : Below W.heap.size W W') : BP w B la ty W' := ⟨h.p.below b, h.b.trans (b.mono h.b.size)⟩
theorem BP.alloc {la : List Value} {ty : TypeId} (h : BP w B la ty W) (o : Obj) : BP w B la ty (W.alloc o) := h.below (bal)
def plnB (cl : Int) (N : Nat) (ss : List L2V) (gn : Nat) (G : List Int) (sn : Nat) (S : List Int) : Bool := inB cl 1 4 && (catB N ss && (okN 3 1000 sn S && trtB sn gn S G))
end Go.Proofs.YtpmihhbgjimpmaaGreatDoor
