/-
  Lemmas that the claim's last text rests on: BoolS, CatPW, DrPt, DrBo, TrtW, Keeps, KeepsS, Sum5, Bounds.
-/
import Derived.Test.YtpnldfembbfgdaaJTrtBoundsA
import Derived.Test.YtpnldfembbfgdaaDrTr
import Derived.Test.YtpnldfembbfgdaaDrAs
import Derived.Test.YtpnldfembbfgdaaDrAd
import Derived.Test.YtpnldfembbfgdaaRowsS
import Derived.Test.YtpnldfembbfgdaaTrt
import Derived.Deep.RegionHeld3
import Derived.Deep.DeepCutAuto
import Derived.Test.YtpnldfembbfgdaaKeyed
import Derived.Deep.AppendLies
namespace Go.Proofs.Ytpnldfembbfgdaa
open Go.RowKit Go.Deep
set_option linter.unusedVariables false
set_option maxRecDepth 100000

/-- Bools that can be read. -/
def BA (W : World) (a : Option Addr) (n : Nat) (f : Nat → Bool) : Prop := ∀ j, j < n → ∃ b off, a = some ⟨b, off, none⟩ ∧ W.cell? ⟨b, off + j, none⟩ = some (.bool (f j))
theorem BA.none {W : World} {a : Option Addr} {f : Nat → Bool} : BA W a 0 f := fun j hj => by omega
theorem Bools.ba {W : World} {a : Option Addr} {f : Nat → Bool} (h : Bools W a f) : BA W a 3 f := fun j hj => by
  obtain ⟨b, off, e, hc⟩ := h
  exact ⟨b, off, e, hc j hj⟩
theorem OwnBB.ba {W : World} {G : Nat} {f : Nat → Bool} (h : OwnBB W G f) : BA W (some ⟨G, 0, Option.none⟩) 3 f := fun j hj => ⟨G, 0, rfl, by rw [Nat.zero_add]; exact (h.at hj).1⟩
theorem BA.below {W W' : World} {a : Option Addr} {n : Nat} {f : Nat → Bool} (h : BA W a n f) (b : Below W.heap.size W W') : BA W' a n f := fun j hj => by
  obtain ⟨b0, off, e, hc⟩ := h j hj
  exact ⟨b0, off, e, (b.cell (p := ⟨b0, off + j, Option.none⟩) (block_lt hc)).trans hc⟩
def rampB (j : Nat) : Bool := (1 + j) % 3 == 0

end Go.Proofs.Ytpnldfembbfgdaa
namespace Go.Proofs.Ytpnldfembbfgdaa
open Go.RowKit Go.Deep
set_option linter.unusedVariables false
set_option maxRecDepth 100000

theorem catB_parts {N : Nat} {ss : List L2V} (h : catB N ss = true) : N ≤ 4 ∧ ss.all L2V.ok = true := by
  simp only [catB, Bool.and_eq_true] at h
  have := inB_iff.1 h.1
  exact ⟨by omega, h.2⟩

end Go.Proofs.Ytpnldfembbfgdaa
namespace Go.Proofs.Ytpnldfembbfgdaa
open Go.RowKit Go.Deep
set_option linter.unusedVariables false
set_option maxRecDepth 100000

theorem ISG.off {S : Nat → Prop} {w w' : World} {ad : Option Addr} {ts : List IV} (h : ISG w ad ts) (t : Touch S w w') (h0 : 0 < ts.length → ∀ b o, ad = some ⟨b, o, none⟩ → ¬ S b) (h1 : ∀ i, i < ts.length → ∀ b o, (ts[i]?.getD noI).a = some ⟨b, o, none⟩ → ¬ S b) : ISG w' ad ts := by
  intro i hi
  obtain ⟨b, off, e, hc, ha⟩ := h i hi
  have hb := t.block b (block_lt hc) (h0 (by omega) b off e)
  exact ⟨b, off, e, (World.cell?_of_block hb).trans hc, ha.1.off t (h1 i hi), ha.2⟩
/-- Parts that lie off some blocks. -/
structure Pt (S : Nat → Prop) (W : World) (ad : Option Addr) (ts : List IV) : Prop where
  g : ISG W ad ts
  na : 0 < ts.length → ∀ b o, ad = some ⟨b, o, none⟩ → ¬ S b
  nk : ∀ i, i < ts.length → ∀ b o, (ts[i]?.getD noI).a = some ⟨b, o, none⟩ → ¬ S b
theorem Pt.touch {S S' : Nat → Prop} {W W' : World} {ad : Option Addr} {ts : List IV} (h : Pt S W ad ts) (t : Touch S' W W') (hS : ∀ k, S' k → S k) : Pt S W' ad ts :=
  ⟨h.g.off t (fun h0 b o e hs => h.na h0 b o e (hS _ hs)) (fun i hi b o e hs => h.nk i hi b o e (hS _ hs)), h.na, h.nk⟩
theorem Pt.below {S : Nat → Prop} {W W' : World} {ad : Option Addr} {ts : List IV} (h : Pt S W ad ts) (b : Below W.heap.size W W') : Pt S W' ad ts := ⟨h.g.below b, h.na, h.nk⟩
theorem ints_ne {W : World} {R : Nat} {a : Option Addr} {n : Nat} {x : List Int} {u v : Value} {t : TypeId} (h : Ints W a n x) (hn : n = 3) (c : Cel W R [u, v] t) : ∀ b o, a = some ⟨b, o, none⟩ → b ≠ R := fun b o e hb => by
  subst hb
  obtain ⟨b', o', e', hc⟩ := h.2 2 (by omega)
  rw [e] at e'
  simp only [Option.some.injEq, Addr.mk.injEq, and_true] at e'
  obtain ⟨rfl, rfl⟩ := e'
  rw [c.cell (o + 2)] at hc
  simp at hc
/-- Parts in a row of their own; what is older may change. -/
structure JPt (n0 : Nat) (G cap : Nat) (ts : List IV) (W : World) : Prop where
  o : W.ownsRow n0 26 1 (.slice (some ⟨G, 0, none⟩) ts.length cap) ts.length (ts.map IV.v)
  k : ∀ j, j < ts.length → (ts[j]?.getD noI).n = 3 ∧ Ints W (ts[j]?.getD noI).a 3 (ts[j]?.getD noI).x ∧ ∀ b o, (ts[j]?.getD noI).a = some ⟨b, o, none⟩ → b ≠ G
theorem JP.old {w W : World} {G cap : Nat} {ts : List IV} (j : JP w G cap ts W) : JPt w.heap.size G cap ts W := ⟨j.o, j.k⟩
theorem JPt.lt {n0 : Nat} {W : World} {G cap : Nat} {ts : List IV} (j : JPt n0 G cap ts W) : n0 ≤ G ∧ G < W.heap.size := j.o.lt G rfl
theorem JPt.below {n0 : Nat} {W W' : World} {G cap : Nat} {ts : List IV} (j : JPt n0 G cap ts W) (h : Below W.heap.size W W') : JPt n0 G cap ts W' :=
  ⟨own_below j.o h, fun i hi => by obtain ⟨a, b, c⟩ := j.k i hi; exact ⟨a, b.below h, c⟩⟩
theorem JPt.touch {n0 R : Nat} {W W' : World} {G cap : Nat} {ts : List IV} {u v : Value} {ty : TypeId} (j : JPt n0 G cap ts W) (t : Touch (fun x => x = R) W W') (hR : R < n0) (hc : Cel W R [u, v] ty) : JPt n0 G cap ts W' :=
  ⟨ownsRow_touch j.o t (fun k hk => by omega), fun i hi => by obtain ⟨a, b, c⟩ := j.k i hi; exact ⟨a, b.off t (ints_ne b rfl hc), c⟩⟩
theorem JPt.g {n0 : Nat} {W : World} {G cap : Nat} {ts : List IV} (j : JPt n0 G cap ts W) : ISG W (some ⟨G, 0, none⟩) ts := fun i hi => by
  obtain ⟨h1, h2, h3⟩ := j.k i hi
  refine ⟨G, 0, rfl, ?_, ?_, by omega⟩
  · rw [Nat.zero_add, own_cell j.o i (by omega), List.getElem?_map, List.getElem?_eq_getElem hi]; rfl
  · rw [h1]; exact h2
theorem JPt.pt {S : Nat → Prop} {n0 : Nat} {W : World} {G cap : Nat} {ts : List IV} (j : JPt n0 G cap ts W) (hS : ∀ k, S k → k < n0) (hR : ∀ k, S k → ∃ u v t, Cel W k [u, v] t) : Pt S W (some ⟨G, 0, none⟩) ts := by
  refine ⟨j.g, fun _ b o e hs => ?_, fun i hi b o e hs => ?_⟩
  · have h1 := hS _ hs
    have h2 := j.lt.1
    simp only [Option.some.injEq, Addr.mk.injEq] at e
    omega
  · obtain ⟨h1, h2, _⟩ := j.k i hi
    obtain ⟨u, v, t, hc⟩ := hR b hs
    exact ints_ne h2 rfl hc b o e rfl
theorem JPt.ptApp {S : Nat → Prop} {n0 : Nat} {W W' : World} {G cap g cp k : Nat} {ts : List IV} {s : IV} {o : Obj} (j : JPt n0 G cap ts W) (hk : ts.length = k) (hI : Ints W s.a s.n s.x) (hn : s.n ≤ 1048576) (hb : ∀ b o, s.a = some ⟨b, o, none⟩ → b ≠ G ∧ ¬ S b)
    (hown : W'.ownsRow n0 26 1 (.slice (some ⟨g, 0, none⟩) (k + 1) cp) (k + 1) (ts.map IV.v ++ [s.v])) (hg : (W.alloc o).grownBy W' (some G)) (hat : g = G ∨ W.heap.size ≤ g) (hS : ∀ k, S k → k < n0) (hR : ∀ k, S k → ∃ u v t, Cel W k [u, v] t) : Pt S W' (some ⟨g, 0, none⟩) (ts ++ [s]) := by
  subst hk
  have A : Below W.heap.size W (W.alloc o) := (Below.refl _ _).alloc (Nat.le_refl _) _
  have T : Touch (fun y => y = G) (W.alloc o) W' := ⟨hg.os, hg.tape, hg.output, hg.size, fun z hz hn => hg.block z hz (fun e => hn (by simpa using e))⟩
  have P := j.pt hS hR
  have hlt := j.lt
  refine ⟨fun i hi => ?_, fun _ b o e hs => ?_, fun i hi b o e hs => ?_⟩
  · refine ⟨g, 0, rfl, ?_, ?_⟩
    · rw [Nat.zero_add, own_cell hown i (by rw [List.length_append] at hi; simpa using hi)]
      by_cases h : i < ts.length
      · rw [List.getElem?_append_left (by simpa using h), List.getElem?_append_left h, List.getElem?_map, List.getElem?_eq_getElem h]; rfl
      · rw [List.length_append, List.length_singleton] at hi
        obtain rfl : i = ts.length := by omega
        rw [List.getElem?_append_right (by simp), List.getElem?_append_right (Nat.le_refl _)]
        simp
    · by_cases h : i < ts.length
      · rw [List.getElem?_append_left h]
        obtain ⟨h1, h2, h3⟩ := j.k i h
        refine ⟨?_, by omega⟩
        rw [h1]
        exact (h2.below A).off T (fun b o e => h3 b o e)
      · rw [List.length_append, List.length_singleton] at hi
        obtain rfl : i = ts.length := by omega
        rw [List.getElem?_append_right (Nat.le_refl _), Nat.sub_self]
        exact ⟨(hI.below A).off T (fun b o e => (hb b o e).1), hn⟩
  · have h1 := hS _ hs
    simp only [Option.some.injEq, Addr.mk.injEq] at e
    omega
  · by_cases h : i < ts.length
    · rw [List.getElem?_append_left h] at e
      exact P.nk i h b o e hs
    · rw [List.length_append, List.length_singleton] at hi
      obtain rfl : i = ts.length := by omega
      rw [List.getElem?_append_right (Nat.le_refl _), Nat.sub_self] at e
      exact (hb b o e).2 hs

set_option maxHeartbeats 1600000 in
theorem sforms_jp (ad : Option Addr) (N cap : Nat) (ss : List L2V) (w : World) (hN : ss.length = N) (hF : LSG w ad ss) (hN1 : N ≤ 1048576) (hU : catB N ss = true) :
    Calls Try.prog 54 #[.slice ad N cap] w fun e w' => ∃ G cG ts nt, e = .returned (.slice (some ⟨G, 0, none⟩) nt cG) ∧ ts.length = nt ∧ JP w G cG ts w' ∧ ts.map IV.x = catP ss ∧ nt ≤ 600000 := by
  have HN : Hid (ss.length = N) := hN
  have HU : Hid (catB N ss = true) := hU
  clear hN
  go_enter Try.func54, Try.ntmps54
  go_wp2_with fail
  refine (scat_any _ _ _ ss _ HN.out hF hN1).mono ?_
  rintro e w1 ⟨rfl, b1⟩
  rw [hU]
  clear hU
  go_wp2_with fail
  refine (sboth_any _ _ _ ss _ HN.out (hF.below b1) (catB_parts HU.out).2 (catB_parts HU.out).1).mono ?_
  rintro e w2 ⟨G, cG, ts, nt, Gp, cp, rfl, hl, jp, hx, hnt, o, lGp⟩
  have jp' : JP w G cG ts w2 := ⟨b1.trans (jp.b.mono b1.size), ⟨jp.o.1, by
    rcases jp.o.2 with h | ⟨g, cap', cur, hv, hg, r⟩
    · exact .inl h
    · exact .inr ⟨g, cap', cur, hv, Nat.le_trans b1.size hg, r⟩⟩, jp.k⟩
  have HX : Hid _ := hx
  have HL : Hid _ := hl
  clear jp hx hl o
  go_wp2
  go_ret
  exact ⟨G, cG, ts, nt, rfl, HL.out, jp', HX.out, hnt⟩
theorem JAs.cat {w W : World} {R : Nat} {a : Option Addr} {n cap : Nat} {bs : List Int} {q : Int} {v : Value} {ss : List L2V} {N : Nat} (j : JAs w R a n cap bs q v ss W) (hN : ss.length = N) (h1 : 1 ≤ N) (h4 : N ≤ 4) : catB N ss = true := by
  unfold catB
  simp only [Bool.and_eq_true]
  refine ⟨inB_iff.2 (by omega), List.all_eq_true.2 fun s hs => ?_⟩
  obtain ⟨i, hi, rfl⟩ := List.getElem_of_mem hs
  have := (j.ac i hi).ok
  rw [List.getElem?_eq_getElem hi] at this
  exact this

set_option maxHeartbeats 3200000 in
theorem dKeeps (a : Option Addr) (n cap : Nat) (bs : List Int) (w : World) (h : BInts w a n bs) (hn : n ≤ cap) (hn1 : n ≤ 1048576) (hc : cap ≤ maxLen) :
    Calls Try.prog 23 #[.slice a n cap] w fun e w' => ∃ ba bn bc ga gn gc B G pa pn pc ts s ea en ec E, e = .returned (.tuple #[treV ba bn bc ga gn gc, .slice pa pn pc, .int .i64 s, .slice ea en ec]) ∧ Below w.heap.size w w' ∧ Ints w' ba bn B ∧ Ints w' ga gn G ∧ bn ≤ 4 ∧ gn ≤ 3 ∧ bnd 51 G ∧ ISG w' pa ts ∧ ts.length = pn ∧ pn ≤ 600001 ∧ Ints w' ea en E ∧ en ≤ 4 ∧ -1 ≤ s ∧ s ≤ 3 := by
  have q0 := Cel.new w [.slice none 0 0, .slice none 0 0] 45
  have al := (Below.refl w.heap.size w).alloc (Nat.le_refl _) (.cells #[.slice none 0 0, .slice none 0 0] 45)
  obtain ⟨i0, hi, hz0, hz1, hz2⟩ := info_parts Try.infoI
  go_enter Try.func23, Try.ntmps23
  go_wp2_with fail
  refine (open_any _ _ _ bs _ (h.below al) hn hn1 hc).mono ?_
  rintro e w1 ⟨R, n', cap2, bs', rfl, b1, hR, r1⟩
  rw [World.size_alloc] at hR
  replace q0 := q0.below b1
  have hw := q0.lt
  have hRl := r1.c.lt
  have hra := r1.ha
  go_wp2_with fail
  refine (acts_f R a n' cap2 bs' 0 _ r1 (by omega) (by omega) r1.ha).mono ?_
  rintro e w2 ⟨ad, N, c, ss, q, rfl, j, hN, hN1, hN4, y0, y1⟩
  have HC : Hid (catB N ss = true) := j.cat hN hN1 hN4
  have HN : Hid (ss.length = N) := hN
  have T2 := j.t
  have z2 := T2.size
  have r2 := j.r
  have hL := j.lsg hN
  replace q0 := q0.touch T2 (by omega)
  clear j hN r1
  go_wp2_with fail
  refine (sforms_jp _ _ _ ss _ HN.out hL (by omega) HC.out).mono ?_
  rintro e w3 ⟨G0, cG, ts, nt, rfl, hl, jp, _, hnt⟩
  have HL : Hid (ts.length = nt) := hl
  replace q0 := q0.below jp.b
  have r3 := r2.below jp.b
  have T3 := T2.trans (Touch.of jp.b)
  clear hl r2 T2 hL
  go_wp2_with fail
  refine (pick_any R a n' cap2 bs' q 16 _ r3 (by omega) (by omega) (by omega) (by omega)).mono ?_
  rintro e w4 ⟨u, u0, u1, rfl, t4, R4⟩
  have jlt := jp.lt
  have hS : ∀ k, (k = R ∨ k = w.heap.size) → k < w2.heap.size := fun k hk => by omega
  have hRR : ∀ k, (k = R ∨ k = w.heap.size) → ∃ u v t, Cel w3 k [u, v] t := fun k hk => by
    rcases hk with rfl | rfl
    · exact ⟨_, _, _, r3.c⟩
    · exact ⟨_, _, _, q0⟩
  replace q0 := q0.touch t4 (by omega)
  have T4 := T3.trans t4
  have z4 := T4.size
  have z34 := t4.size
  by_cases hu : u = 0
  · obtain rfl : u = 0 := by omega
    have hS4 : ∀ k, (k = R ∨ k = w.heap.size) → ∃ u v t, Cel w4 k [u, v] t := fun k hk => by
      rcases hk with rfl | rfl
      · exact ⟨_, _, _, R4.c⟩
      · exact ⟨_, _, _, q0⟩
    have j4 := jp.old.touch t4 (by omega) r3.c
    clear jp
    have al2 := (Below.refl w4.heap.size w4).alloc (Nat.le_refl _) (.cells #[.int .i64 1, .int .i64 2] 3)
    have c2 := Cel.new w4 [.int .i64 1, .int .i64 2] 3
    have al3 := (Below.refl (w4.alloc (.cells #[.int .i64 1, .int .i64 2] 3)).heap.size (w4.alloc (.cells #[.int .i64 1, .int .i64 2] 3))).alloc (Nat.le_refl _) (.cells #[.slice (some ⟨w4.heap.size, 0, none⟩) 2 2] 26)
    have j5 := j4.below al2
    have o5 := (j5.below al3).o
    rw [HL.out] at o5
    obtain ⟨W5, hW5⟩ : ∃ W, W = w4.alloc (.cells #[.int .i64 1, .int .i64 2] 3) := ⟨_, rfl⟩
    have hz5 : W5.heap.size = w4.heap.size + 1 := by rw [hW5, World.size_alloc]
    have hg0 := heap_alloc_new W5 (.cells #[.slice (some ⟨w4.heap.size, 0, none⟩) 2 2] 26)
    rw [hW5] at hg0
    go_wp2_with (at_builtin; refine wpList_append_lies _ rfl (.tmp 16) (.tmp 18) 46 rfl w2.heap.size 26 i0 _ 1 24 Try.underlying46 hi hz0 hz1 hz2 rfl (by omega) (.slice (some ⟨G0, 0, none⟩) nt cG) nt (ts.map IV.v) (by rfl) o5 ⟨w4.heap.size + 1, 0, none⟩ 1 1 [.slice (some ⟨w4.heap.size, 0, none⟩) 2 2] (by rfl) (by rfl) (World.news_of_block (cs := #[.slice (some ⟨w4.heap.size, 0, none⟩) 2 2]) (t := 26) (fr := (0, 0)) (by rw [World.size_alloc] at hg0; exact hg0)) (by simp [Value.oneCell']) (by omega) (by unfold maxLen; omega) (by omega) (by simp only [World.size_alloc]; omega) (w4.heap.size + 1 + 1) (by simp only [World.size_alloc]) ?_)
    intro g9 c9 w5 hown hgrow hat9 _
    rw [← hW5] at hgrow j5 al2 c2
    have i2 : Ints W5 (some ⟨w4.heap.size, 0, none⟩) 2 [1, 2] := ⟨rfl, fun i hi => ⟨_, 0, rfl, by
      rw [Nat.zero_add, c2.cell i]
      match i, hi with
      | 0, _ => rfl
      | 1, _ => rfl⟩⟩
    have P : Pt (fun k => k = R ∨ k = w.heap.size) w5 (some ⟨g9, 0, none⟩) (ts ++ [⟨some ⟨w4.heap.size, 0, none⟩, 2, 2, [1, 2]⟩]) := j5.ptApp HL.out i2 (by show 2 ≤ 1048576; omega) (fun b o e => by (have e' : (some ⟨w4.heap.size, 0, none⟩ : Option Addr) = some ⟨b, o, none⟩ := e; simp only [Option.some.injEq, Addr.mk.injEq] at e'; have := j4.lt; exact ⟨by omega, by omega⟩)) hown hgrow (by rcases hat9 with h | h; exact .inl (by simpa [Value.ownBlock] using h.symm); exact .inr (by omega)) hS (fun k hk => by obtain ⟨u, v, t, hc⟩ := hS4 k hk; exact ⟨u, v, t, hc.below al2⟩)
    have al4 := (Below.refl W5.heap.size W5).alloc (Nat.le_refl _) (.cells #[.slice (some ⟨w4.heap.size, 0, none⟩) 2 2] 26)
    have Tg : Touch (fun x => x = G0) (W5.alloc (.cells #[.slice (some ⟨w4.heap.size, 0, none⟩) 2 2] 26)) w5 := ⟨hgrow.os, hgrow.tape, hgrow.output, hgrow.size, fun z hz hn => hgrow.block z hz (fun e => hn (by simpa [Value.ownBlock] using e))⟩
    have T5 := ((T4.trans (Touch.of al2)).trans (Touch.of al4)).grown hgrow (fun z hz => by simp only [Value.ownBlock, Option.some.injEq] at hz; omega)
    have r5 := ((R4.below al2).below al4).touch Tg (by omega) (fun h0 b o e hs => by have := hra h0 b o e; omega)
    replace q0 := ((q0.below al2).below al4).touch Tg (by omega)
    clear hown hgrow Tg al2 al3 al4 j4 j5 o5 hg0 hW5 c2 i2 hS4 R4 T4 hat9
    clear hS hRR r3 T3 t4
    go_wp2_with fail
    refine (treaty_f R a n' cap2 bs' (q + 1) 12 _ r5 (by omega) (by omega) (by omega) (by omega) r5.ha).mono ?_
    rintro e w6 ⟨ba, bn, bc, ga, gn, gc, B, G, q6, rfl, d6⟩
    have u6 := d6.q0
    have u7 := d6.q1
    replace q0 := q0.touch d6.t (by omega)
    replace P := P.touch d6.t (fun k hk => .inl hk)
    have z5 := T5.size
    go_wp2_with fail
    refine (pick_any R a n' cap2 bs' q6 4 _ d6.r (by omega) (by omega) (by omega) (by omega)).mono ?_
    rintro e w7 ⟨s1, s10, s11, rfl, t7, R7⟩
    go_wp2_with fail
    refine (pick_any R a n' cap2 bs' (q6 + 1) 2 _ R7 (by omega) (by omega) (by omega) (by omega)).mono ?_
    rintro e w8 ⟨s2, s20, s21, rfl, t8, R8⟩
    go_wp2_with fail
    refine (added_gen R a n' cap2 bs' (q6 + 1 + 1) 6 _ R8 (by omega) (by omega) (by omega) (by omega) R8.ha).mono ?_
    rintro e w9 ⟨ea, en, ec, E, q9, rfl, d9⟩
    have t9 := (t7.trans t8).trans d9.t
    have zz := (t7.trans t8).size
    have z9 := t9.size
    have z6 := d6.t.size
    have lb := d6.lb
    have lg := d6.lg
    have le := d9.lo
    have bI := d6.b.off t9 (fun b o e hs => by have := lb b o e; omega)
    have gI := d6.g.off t9 (fun b o e hs => by have := lg b o e; omega)
    have eI := d9.i
    replace q0 := q0.touch t9 (by omega)
    replace P := P.touch t9 (fun k hk => .inl hk)
    have x1 := d6.b4
    have x2 := d6.g3
    have x3 := d6.gB
    have x4 := d9.h4
    have T9 := (T5.trans d6.t).trans t9
    have BB : Below w.heap.size w w9 := (al.trans (b1.mono al.size)).trans (T9.below (by omega) (fun k hk => by omega))
    have g0 := q0.cell 0
    have g1 := q0.cell 1
    have h0 := q0.free 0
    have h1 := q0.free 1
    have l3 := q0.lt
    simp only [List.getElem?_cons_zero, List.getElem?_cons_succ] at g0 g1
    clear d6 d9 t7 t8 t9 T9 T5 R7 R8 r5 al b1
    go_wp2
    refine bodyPost_ret (v := .tuple #[treV ba bn bc ga gn gc, .slice (some ⟨g9, 0, none⟩) (nt + 1) c9, .int .i64 (s1 - s2), .slice ea en ec]) (by simp [results, Try.results23, go_sem, g0, g1]) rfl ⟨ba, bn, bc, ga, gn, gc, B, G, _, (nt + 1), c9, (ts ++ [⟨some ⟨w4.heap.size, 0, none⟩, 2, 2, [1, 2]⟩]), s1 - s2, ea, en, ec, E, rfl, (BB.setCell (Nat.le_refl _) _).setCell (Nat.le_refl _) _, ?_, ?_, x1, x2, x3, ?_, by rw [List.length_append, HL.out]; rfl, by omega, ?_, x4, by omega, by omega⟩
    · exact (bI.setFar (fun b o e => by have := lb b o e; omega) 0 _).setFar (fun b o e => by have := lb b o e; omega) 1 _
    · exact (gI.setFar (fun b o e => by have := lg b o e; omega) 0 _).setFar (fun b o e => by have := lg b o e; omega) 1 _
    · exact (P.touch (S' := fun k => k = w.heap.size) (Touch.setCell (S := fun x => x = w.heap.size) (Touch.setCell (S := fun x => x = w.heap.size) (Touch.refl _ _) rfl _) rfl _) (fun k hk => .inr hk)).g
    · exact (eI.setFar (fun b o e => by have := le b o e; omega) 0 _).setFar (fun b o e => by have := le b o e; omega) 1 _
  · have P := (jp.old.pt hS hRR).touch t4 (fun k hk => .inl hk)
    have hu' : (u == 0) = false := by simpa using hu
    have r5 := R4
    have T5 := T4
    clear jp R4 T4
    clear hS hRR r3 T3 t4
    go_wp2_with fail
    refine (treaty_f R a n' cap2 bs' (q + 1) 12 _ r5 (by omega) (by omega) (by omega) (by omega) r5.ha).mono ?_
    rintro e w6 ⟨ba, bn, bc, ga, gn, gc, B, G, q6, rfl, d6⟩
    have u6 := d6.q0
    have u7 := d6.q1
    replace q0 := q0.touch d6.t (by omega)
    replace P := P.touch d6.t (fun k hk => .inl hk)
    have z5 := T5.size
    go_wp2_with fail
    refine (pick_any R a n' cap2 bs' q6 4 _ d6.r (by omega) (by omega) (by omega) (by omega)).mono ?_
    rintro e w7 ⟨s1, s10, s11, rfl, t7, R7⟩
    go_wp2_with fail
    refine (pick_any R a n' cap2 bs' (q6 + 1) 2 _ R7 (by omega) (by omega) (by omega) (by omega)).mono ?_
    rintro e w8 ⟨s2, s20, s21, rfl, t8, R8⟩
    go_wp2_with fail
    refine (added_gen R a n' cap2 bs' (q6 + 1 + 1) 6 _ R8 (by omega) (by omega) (by omega) (by omega) R8.ha).mono ?_
    rintro e w9 ⟨ea, en, ec, E, q9, rfl, d9⟩
    have t9 := (t7.trans t8).trans d9.t
    have zz := (t7.trans t8).size
    have z9 := t9.size
    have z6 := d6.t.size
    have lb := d6.lb
    have lg := d6.lg
    have le := d9.lo
    have bI := d6.b.off t9 (fun b o e hs => by have := lb b o e; omega)
    have gI := d6.g.off t9 (fun b o e hs => by have := lg b o e; omega)
    have eI := d9.i
    replace q0 := q0.touch t9 (by omega)
    replace P := P.touch t9 (fun k hk => .inl hk)
    have x1 := d6.b4
    have x2 := d6.g3
    have x3 := d6.gB
    have x4 := d9.h4
    have T9 := (T5.trans d6.t).trans t9
    have BB : Below w.heap.size w w9 := (al.trans (b1.mono al.size)).trans (T9.below (by omega) (fun k hk => by omega))
    have g0 := q0.cell 0
    have g1 := q0.cell 1
    have h0 := q0.free 0
    have h1 := q0.free 1
    have l3 := q0.lt
    simp only [List.getElem?_cons_zero, List.getElem?_cons_succ] at g0 g1
    clear d6 d9 t7 t8 t9 T9 T5 R7 R8 r5 al b1
    go_wp2
    refine bodyPost_ret (v := .tuple #[treV ba bn bc ga gn gc, .slice (some ⟨G0, 0, none⟩) nt cG, .int .i64 (s1 - s2), .slice ea en ec]) (by simp [results, Try.results23, go_sem, g0, g1]) rfl ⟨ba, bn, bc, ga, gn, gc, B, G, _, nt, cG, ts, s1 - s2, ea, en, ec, E, rfl, (BB.setCell (Nat.le_refl _) _).setCell (Nat.le_refl _) _, ?_, ?_, x1, x2, x3, ?_, HL.out, by omega, ?_, x4, by omega, by omega⟩
    · exact (bI.setFar (fun b o e => by have := lb b o e; omega) 0 _).setFar (fun b o e => by have := lb b o e; omega) 1 _
    · exact (gI.setFar (fun b o e => by have := lg b o e; omega) 0 _).setFar (fun b o e => by have := lg b o e; omega) 1 _
    · exact (P.touch (S' := fun k => k = w.heap.size) (Touch.setCell (S := fun x => x = w.heap.size) (Touch.setCell (S := fun x => x = w.heap.size) (Touch.refl _ _) rfl _) rfl _) (fun k hk => .inr hk)).g
    · exact (eI.setFar (fun b o e => by have := le b o e; omega) 0 _).setFar (fun b o e => by have := le b o e; omega) 1 _

end Go.Proofs.Ytpnldfembbfgdaa
namespace Go.Proofs.Ytpnldfembbfgdaa
open Go.RowKit Go.Deep
set_option linter.unusedVariables false
set_option maxRecDepth 100000

/-- A block in which no list of three or of two numbers lies. -/
def NoL (W : World) (k : Nat) : Prop := ∀ a n x, Ints W a n x → (n = 3 ∨ n = 2) → ∀ b o, a = some ⟨b, o, none⟩ → b ≠ k
theorem noL2 {W : World} {k : Nat} {p : Option Addr} {m c : Nat} {v : Value} {t : TypeId} (h : Cel W k [.slice p m c, v] t) : NoL W k := fun a n x hI hn b o e hb => by
  subst hb
  obtain ⟨b0, o0, e0, h0⟩ := hI.2 0 (by omega)
  obtain ⟨b1, o1, e1, h1⟩ := hI.2 1 (by omega)
  rw [e] at e0 e1
  simp only [Option.some.injEq, Addr.mk.injEq, and_true] at e0 e1
  obtain ⟨rfl, rfl⟩ := e0
  obtain ⟨rfl, rfl⟩ := e1
  have k0 := h.cell (o + 0)
  have k1 := h.cell (o + 1)
  rw [h0] at k0
  rw [h1] at k1
  match o with
  | 0 => simp at k0
  | o + 1 => simp at k1
theorem noL3 {W : World} {k : Nat} {p p' : Option Addr} {m c m' c' : Nat} {v : Value} {t : TypeId} (h : Cel W k [.slice p m c, .slice p' m' c', v] t) : NoL W k := fun a n x hI hn b o e hb => by
  subst hb
  obtain ⟨b0, o0, e0, h0⟩ := hI.2 0 (by omega)
  obtain ⟨b1, o1, e1, h1⟩ := hI.2 1 (by omega)
  rw [e] at e0 e1
  simp only [Option.some.injEq, Addr.mk.injEq, and_true] at e0 e1
  obtain ⟨rfl, rfl⟩ := e0
  obtain ⟨rfl, rfl⟩ := e1
  have k0 := h.cell (o + 0)
  have k1 := h.cell (o + 1)
  rw [h0] at k0
  rw [h1] at k1
  match o with
  | 0 => simp at k0
  | 1 => simp at k0
  | o + 2 => simp at k1
theorem JPt.ptN {S : Nat → Prop} {n0 : Nat} {W : World} {G cap : Nat} {ts : List IV} (j : JPt n0 G cap ts W) (hS : ∀ k, S k → k < n0) (hR : ∀ k, S k → NoL W k) : Pt S W (some ⟨G, 0, none⟩) ts := by
  refine ⟨j.g, fun _ b o e hs => ?_, fun i hi b o e hs => ?_⟩
  · have h1 := hS _ hs
    have h2 := j.lt.1
    simp only [Option.some.injEq, Addr.mk.injEq] at e
    omega
  · obtain ⟨h1, h2, _⟩ := j.k i hi
    exact hR b hs _ _ _ h2 (.inl rfl) b o e rfl
/-- A form that lies off some blocks. -/
structure FmP (S : Nat → Prop) (W : World) (fa : Option Addr) (fn : Nat) (fb : Option Addr) (fm : Nat) (F : Frm) : Prop where
  C : Ints W fa fn F.1
  D : Ints W fb fm F.2.1
  n4 : fn ≤ 4
  m4 : fm ≤ 4
  oa : ∀ b o, fa = some ⟨b, o, none⟩ → ¬ S b
  ob : ∀ b o, fb = some ⟨b, o, none⟩ → ¬ S b
section
variable {S : Nat → Prop} {W W' : World} {fa : Option Addr} {fn : Nat} {fb : Option Addr} {fm : Nat} {F : Frm}
theorem FmP.below (h : FmP S W fa fn fb fm F) (b : Below W.heap.size W W') : FmP S W' fa fn fb fm F := ⟨h.C.below b, h.D.below b, h.n4, h.m4, h.oa, h.ob⟩
theorem FmP.touch {S' : Nat → Prop} (h : FmP S W fa fn fb fm F) (t : Touch S' W W') (hs : ∀ k, S' k → S k) : FmP S W' fa fn fb fm F := ⟨h.C.off t (fun b o e k => h.oa b o e (hs _ k)), h.D.off t (fun b o e k => h.ob b o e (hs _ k)), h.n4, h.m4, h.oa, h.ob⟩
theorem FmP.fa' (h : FmP S W fa fn fb fm F) : FA W fa fn fb fm F := ⟨h.C, h.D, by have := h.n4; omega, by have := h.m4; omega⟩
end

theorem Touch.setX {R X : Nat} {w1 W W' : World} (h : Touch (fun x => x = R) w1 W) (t : Touch (fun x => x = X) W W') (hX : w1.heap.size ≤ X) : Touch (fun x => x = R) w1 W' :=
  ⟨t.os.trans h.os, t.tape.trans h.tape, t.output.trans h.output, Nat.le_trans h.size t.size, fun x hx hs => (t.block x (Nat.lt_of_lt_of_le hx h.size) (fun e => by omega)).trans (h.block x hx hs)⟩

set_option maxHeartbeats 12800000 in
theorem dBounds (a : Option Addr) (n cap : Nat) (bs : List Int) (w : World) (h : BInts w a n bs) (hn : n ≤ cap) (hn1 : n ≤ 1048576) (hc : cap ≤ maxLen) :
    Calls Try.prog 31 #[.slice a n cap] w fun e w' => ∃ ba bn bc ga gn gc B G pa pn pc ts s ea en ec E fa fn fc fb fm fd F ua un uc U, e = .returned (.tuple #[treV ba bn bc ga gn gc, .slice pa pn pc, .int .i64 s, .slice ea en ec, formV fa fn fc fb fm fd F.2.2, .slice ua un uc]) ∧ Below w.heap.size w w' ∧ Ints w' ba bn B ∧ Ints w' ga gn G ∧ bn ≤ 4 ∧ gn ≤ 3 ∧ bnd 51 G ∧ ISG w' pa ts ∧ ts.length = pn ∧ pn ≤ 600000 ∧ Ints w' ea en E ∧ en ≤ 4 ∧ FA w' fa fn fb fm F ∧ Ints w' ua un U ∧ un ≤ 4 ∧ 0 ≤ s ∧ s ≤ 2 := by
  have qt0 := Cel.new w [.slice none 0 0, .slice none 0 0] 45
  have al0 := (Below.refl w.heap.size w).alloc (Nat.le_refl _) (.cells #[.slice none 0 0, .slice none 0 0] 45)
  have qf := Cel.new (w.alloc (.cells #[.slice none 0 0, .slice none 0 0] 45)) [.slice none 0 0, .slice none 0 0, .int .i64 0] 34
  have al1 := (Below.refl (w.alloc (.cells #[.slice none 0 0, .slice none 0 0] 45)).heap.size (w.alloc (.cells #[.slice none 0 0, .slice none 0 0] 45))).alloc (Nat.le_refl _) (.cells #[.slice none 0 0, .slice none 0 0, .int .i64 0] 34)
  have al := al0.trans (al1.mono al0.size)
  have qt := qt0.below al1
  rw [World.size_alloc] at qf
  clear al0 al1 qt0
  go_enter Try.func31, Try.ntmps31
  go_wp2_with fail
  refine (open_any _ _ _ bs _ (h.below al) hn hn1 hc).mono ?_
  rintro e w1 ⟨R, n', cap2, bs', rfl, b1, hR, r1⟩
  simp only [World.size_alloc] at hR
  replace qt := qt.below b1
  replace qf := qf.below b1
  have hRl := r1.c.lt
  have hra := r1.ha
  go_wp2_with fail
  refine (acts_f R a n' cap2 bs' 0 _ r1 (by omega) (by omega) r1.ha).mono ?_
  rintro e w2 ⟨ad, N, c, ss, q, rfl, j, hN, hN1, hN4, y0, y1⟩
  have HC : Hid (catB N ss = true) := j.cat hN hN1 hN4
  have HN : Hid (ss.length = N) := hN
  have T := j.t
  have z2 := T.size
  have rd := j.r
  have hL := j.lsg hN
  have hA := (j.ac 0 (by rw [hN]; omega)).mono (P' := fun b => w1.heap.size ≤ b) (fun b hb => hb.1)
  obtain ⟨ga0, hga0⟩ : ∃ g, ad = some ⟨g, 0, none⟩ := by
    rcases j.o.2 with ⟨_, h⟩ | ⟨g, cap', cur, hv, _⟩
    · omega
    · simp only [Value.slice.injEq] at hv
      exact ⟨g, hv.1⟩
  subst hga0
  have oo := j.o
  rw [hN] at oo
  replace qt := qt.touch T (by omega)
  replace qf := qf.touch T (by omega)
  clear j hN r1
  go_wp2_with fail
  refine (sforms_jp _ _ _ ss _ HN.out hL (by omega) HC.out).mono ?_
  rintro e w3 ⟨G0, cG, ts, nt, rfl, hl, jp, _, hnt⟩
  have HL : Hid (ts.length = nt) := hl
  have bb := jp.b
  have z3 := bb.size
  replace qt := qt.below bb
  replace qf := qf.below bb
  replace rd := rd.below bb
  replace T := T.trans (Touch.of bb)
  replace hA := hA.below bb
  replace oo := own_belowL oo bb
  have HP3 : Hid (∀ i, i < ts.length → (ts[i]?.getD noI).n = 3 ∨ (ts[i]?.getD noI).n = 2) := fun i hi => .inl (jp.k i hi).1
  have jl := jp.lt
  have P := jp.old.ptN (S := fun k => k = R ∨ k = w.heap.size ∨ k = w.heap.size + 1) (fun k hk => by omega) (fun k hk => by (rcases hk with rfl | rfl | rfl; exact noL2 rd.c; exact noL2 qt; exact noL3 qf))
  clear jp hl hL bb
  go_wp2_with fail
  refine (form_f R a n' cap2 bs' q 12 _ rd (by omega) (by omega) (by omega) (by omega) rd.ha).mono ?_
  rintro e w4 ⟨B1, nC, cC, B2, nD, cD, K, LC, LD, q4, rfl, fm⟩
  have x0 := fm.q0
  have x1 := fm.q1
  have x2 := fm.b1
  have x3 := fm.b2
  have z4 := fm.t.size
  have P4 : FmP (fun k => k = R ∨ k = w.heap.size ∨ k = w.heap.size + 1) w4 (some ⟨B1, 0, none⟩) nC (some ⟨B2, 0, none⟩) nD (LC, LD, K) := ⟨fm.c, fm.d, fm.c4, fm.d4, fun b o e hs => by (simp only [Option.some.injEq, Addr.mk.injEq] at e; omega), fun b o e hs => by (simp only [Option.some.injEq, Addr.mk.injEq] at e; omega)⟩
  replace qt := qt.touch fm.t (by omega)
  replace qf := qf.touch fm.t (by omega)
  replace T := T.trans fm.t
  replace hA := hA.touch fm.t (fun b hb hs => by omega)
  replace oo := ownsRow_touch oo fm.t (fun k hk => by omega)
  replace P := P.touch fm.t (fun k hk => .inl hk)
  clear rd
  have rd := fm.r
  clear fm
  have bx := (Below.refl w4.heap.size w4).alloc (Nat.le_refl _) (.cells #[.slice (some ⟨B1, 0, none⟩) nC cC, .slice (some ⟨B2, 0, none⟩) nD cD, .int .i64 K] 34)
  have qx := Cel.new w4 [.slice (some ⟨B1, 0, none⟩) nC cC, .slice (some ⟨B2, 0, none⟩) nD cD, .int .i64 K] 34
  replace qt := qt.below bx
  replace qf := qf.below bx
  replace T := T.trans (Touch.of bx)
  replace hA := hA.below bx
  replace oo := own_belowL oo bx
  replace P := P.below bx
  replace P4 := P4.below bx
  replace rd := rd.below bx
  go_upto_region 5 with fail
  obtain ⟨w5, hw5⟩ : ∃ W, W = w4.alloc (.cells #[.slice (some ⟨B1, 0, none⟩) nC cC, .slice (some ⟨B2, 0, none⟩) nD cD, .int .i64 K] 34) := ⟨_, rfl⟩
  have z5 : w4.heap.size + 1 ≤ w5.heap.size := by rw [hw5, World.size_alloc]; omega
  rw [← hw5]
  rw [← hw5] at qt qf T hA oo P P4 rd qx
  clear hw5 bx
  obtain ⟨X, hX⟩ : ∃ x, x = w4.heap.size := ⟨_, rfl⟩
  rw [← hX]
  rw [← hX] at qx
  have v1 : w1.heap.size ≤ X := by omega
  have v2 : X < w5.heap.size := by omega
  have v3 : w3.heap.size ≤ X := by omega
  clear hX
  have c0 := oo.cellAt 0 (by omega)
  rw [List.getElem?_map, List.getElem?_eq_getElem (by rw [HN.out]; omega)] at c0
  obtain ⟨s0, hs0⟩ : ∃ s0, s0 = ss[0]?.getD noL := ⟨_, rfl⟩
  have es : ss[0]'(by rw [HN.out]; omega) = s0 := by rw [hs0, List.getElem?_eq_getElem (by rw [HN.out]; omega)]; rfl
  rw [es] at c0
  rw [← hs0] at hA
  have c0' : w5.cell? ⟨ga0, 0, none⟩ = some (.slice s0.a s0.n s0.cap) := c0
  have hok := hA.ok
  have hlen := hA.len
  have hlg := hA.g
  have h6 := hA.six
  have HO : Hid (actB s0.n s0.x = true) := hok
  have HLn : Hid (s0.x.length = s0.n) := hlen
  have hN0 : (0 : Int) < (N : Int) := by omega
  clear c0 es hs0 hok hlen
  go_wp2_with fail
  refine (srows_any _ _ _ s0.x _ HLn.out hlg (by omega)).mono ?_
  rintro e w6 ⟨Gr, cr, xs, rfl, jr⟩
  have hne : 0 < (rowsB s0.n s0.x).length := by unfold rowsB; rw [HO.out, if_pos rfl]; exact goW_ne _ _ _
  have bb := jr.b
  have z6 := bb.size
  have jlt := jr.lt
  have ro := jr.o
  have rk := jr.r
  replace qt := qt.below bb
  replace qf := qf.below bb
  replace qx := qx.below bb
  replace T := T.trans (Touch.of bb)
  replace P := P.below bb
  replace P4 := P4.below bb
  replace rd := rd.below bb
  clear jr bb c0' oo hA hlg
  go_wp2_with fail
  refine (pick_any R a n' cap2 bs' q4 2 _ rd (by omega) (by omega) (by omega) (by omega)).mono ?_
  rintro e w7 ⟨u, u0, u1, rfl, t7, R7⟩
  have z7 := t7.size
  replace qt := qt.touch t7 (by omega)
  replace qf := qf.touch t7 (by omega)
  replace qx := qx.touch t7 (by omega)
  replace T := T.trans t7
  replace P := P.touch t7 (fun k hk => .inl hk)
  replace P4 := P4.touch t7 (fun k hk => .inl hk)
  replace ro := ownsRow_touch ro t7 (fun k hk => by omega)
  obtain ⟨pa, pc, pb, pd, pe, pf, k0, _, _, _, f0, _, _⟩ := rk 0 hne
  have f7 := f0.touch (t7.mono (fun k hk => .inl (by omega)))
  clear rd rk f0
  have rd := R7
  have k0' := ro.cellAt 0 (by omega)
  rw [Nat.zero_mul] at k0
  rw [k0] at k0'
  obtain ⟨gl, hgl⟩ : ∃ g, g = ((rowsB s0.n s0.x)[0]?.getD noR).guards := ⟨_, rfl⟩
  rw [← hgl] at k0' f7
  have hne' : (0 : Int) < (((rowsB s0.n s0.x).length : Nat) : Int) := by omega
  obtain ⟨rl, hrl⟩ : ∃ r, r = (rowsB s0.n s0.x).length := ⟨_, rfl⟩
  rw [← hrl] at hne hne' ⊢
  clear hgl k0 ro R7 t7 hrl
  by_cases hu : u = 0
  · subst hu
    by_cases hg : 0 < gl.length
    · have hg' : (0 : Int) < ((gl.length : Nat) : Int) := by omega
      obtain ⟨b8, o8, e8, a8, c8, p8, p9, m0, m1, m2, I8, J8⟩ := f7.at 0 hg
      subst e8
      obtain ⟨F8, hF8⟩ : ∃ F, F = gl[0]?.getD ([], [], 0) := ⟨_, rfl⟩
      rw [← hF8] at m2 I8 J8
      simp only [Nat.zero_mul, Nat.add_zero] at m0 m1 m2
      have NR := noL2 rd.c
      have N2 := noL2 qt
      have N6 := noL3 qf
      have NX := noL3 qx
      have P8 : FmP (fun k => k = R ∨ k = w.heap.size ∨ k = w.heap.size + 1) w7 a8 3 c8 2 F8 := ⟨I8, J8, by omega, by omega, fun b o e hs => by (rcases hs with hs | hs | hs; exact NR _ _ _ I8 (.inl rfl) b o e hs; exact N2 _ _ _ I8 (.inl rfl) b o e hs; exact N6 _ _ _ I8 (.inl rfl) b o e hs), fun b o e hs => by (rcases hs with hs | hs | hs; exact NR _ _ _ J8 (.inr rfl) b o e hs; exact N2 _ _ _ J8 (.inr rfl) b o e hs; exact N6 _ _ _ J8 (.inr rfl) b o e hs)⟩
      have nx1 : ∀ b o, a8 = some ⟨b, o, none⟩ → b ≠ X := fun b o e => NX _ _ _ I8 (.inl rfl) b o e
      have nx2 : ∀ b o, c8 = some ⟨b, o, none⟩ → b ≠ X := fun b o e => NX _ _ _ J8 (.inr rfl) b o e
      have e0 := qx.cell 0
      have e1 := qx.cell 1
      have e2 := qx.cell 2
      have h0 := qx.free 0
      have h1 := qx.free 1
      have h2 := qx.free 2
      have lx := qx.lt
      simp only [List.getElem?_cons_zero, List.getElem?_cons_succ] at e0 e1 e2
      have NXP := NX
      clear NR N2 N6 NX I8 J8 hF8 f7 P4
      go_upto_region 8 with fail
      have TX : Touch (fun k => k = X) w7 (((w7.setCell ⟨X, 0, none⟩ (.slice a8 3 p8)).setCell ⟨X, 1, none⟩ (.slice c8 2 p9)).setCell ⟨X, 2, none⟩ (.int .i64 F8.2.2)) := Touch.setCell (S := fun k => k = X) (Touch.setCell (S := fun k => k = X) (Touch.setCell (S := fun k => k = X) (Touch.refl _ _) rfl _) rfl _) rfl _
      replace qx := ((qx.set 0 (.slice a8 3 p8)).set 1 (.slice c8 2 p9)).set 2 (.int .i64 F8.2.2)
      simp only [List.set_cons_succ, List.set_cons_zero] at qx
      have P4 : FmP (fun k => k = R ∨ k = w.heap.size ∨ k = w.heap.size + 1) (((w7.setCell ⟨X, 0, none⟩ (.slice a8 3 p8)).setCell ⟨X, 1, none⟩ (.slice c8 2 p9)).setCell ⟨X, 2, none⟩ (.int .i64 F8.2.2)) a8 3 c8 2 F8 := ⟨P8.C.off TX (fun b o e k => nx1 b o e k), P8.D.off TX (fun b o e k => nx2 b o e k), P8.n4, P8.m4, P8.oa, P8.ob⟩
      replace qt := qt.touch TX (by omega)
      replace qf := qf.touch TX (by omega)
      replace T := T.setX TX v1
      replace P : Pt (fun k => k = R ∨ k = w.heap.size ∨ k = w.heap.size + 1) _ (some ⟨G0, 0, none⟩) ts := ⟨P.g.off TX (fun h0 b o e hs => by (simp only [Option.some.injEq, Addr.mk.injEq] at e; omega)) (fun i hi b o e hs => by (obtain ⟨_, _, _, _, hI, hI2⟩ := P.g i hi; exact NXP _ _ _ hI (HP3.out i hi) b o e hs)), P.na, P.nk⟩
      replace rd := rd.touch TX (by omega) (fun h0 b o e hs => by have := hra h0 b o e; omega)
      clear TX P8 nx1 nx2 e0 e1 e2 h0 h1 h2 lx m0 m1 m2 k0'
      obtain ⟨w8, hw8⟩ : ∃ W, W = ((w7.setCell ⟨X, 0, none⟩ (.slice a8 3 p8)).setCell ⟨X, 1, none⟩ (.slice c8 2 p9)).setCell ⟨X, 2, none⟩ (.int .i64 F8.2.2) := ⟨_, rfl⟩
      have z8 : w7.heap.size ≤ w8.heap.size := by rw [hw8]; simp only [size_setCell]; omega
      rw [← hw8]
      rw [← hw8] at qx qt qf T P P4 rd
      clear hw8
      skip
      go_upto_region 8 with fail
      refine wp_region_ends (fun Y => Y.cell? ⟨X, 0, none⟩ = some (.slice a8 3 p8) ∧ Y.cell? ⟨X, 1, none⟩ = some (.slice c8 2 p9) ∧ Y.cell? ⟨X, 2, none⟩ = some (.int .i64 F8.2.2)) (fun _ => True) 16 (by kernel_rfl) ?_
      have dr : Below w8.heap.size w8 w8.drew := (Below.refl _ _).drew
      have zd := dr.size
      replace qt := qt.below dr
      replace qf := qf.below dr
      replace qx := qx.below dr
      replace T := T.trans (Touch.of dr)
      replace P := P.below dr
      replace P4 := P4.below dr
      replace rd := rd.below dr
      clear dr
      obtain ⟨V, hV⟩ : ∃ V, V = w8.drew := ⟨_, rfl⟩
      rw [← hV]
      rw [← hV] at qt qf qx T P P4 rd zd
      clear hV
      have hSS : (fun Y : World => Y.cell? ⟨X, 0, none⟩ = some (.slice a8 3 p8) ∧ Y.cell? ⟨X, 1, none⟩ = some (.slice c8 2 p9) ∧ Y.cell? ⟨X, 2, none⟩ = some (.int .i64 F8.2.2)) V ∧ True := ⟨⟨qx.cell 0, qx.cell 1, qx.cell 2⟩, trivial⟩
      refine tkL (i := 0) rfl hSS ?_
      refine tkL (i := 2) rfl hSS ?_
      refine tkL (i := 3) rfl hSS ?_
      simp only [Act.put, List.setIfInBounds_toArray, List.set_cons_succ, List.set_cons_zero, List.getElem_toArray, List.getElem_cons_succ, List.getElem_cons_zero]
      refine tkL (i := 5) rfl hSS ?_
      refine tkL (i := 7) rfl hSS ?_
      refine tkL (i := 8) rfl hSS ?_
      simp only [Act.put, List.setIfInBounds_toArray, List.set_cons_succ, List.set_cons_zero, List.getElem_toArray, List.getElem_cons_succ, List.getElem_cons_zero]
      clear hSS
      refine wpAnyE_one (i := 1) (by kernel_rfl) rfl (fun Kn hK => ?_)
      go_simp
      refine (treaty_f R a n' cap2 bs' (q4 + 1) 16 _ rd (by omega) (by omega) (by omega) (by omega) rd.ha).mono ?_
      rintro e w10 ⟨ba, bn, bc, ga, gn, gc, B, G, q10, rfl, d10⟩
      have y2 := d10.q0
      have y3 := d10.q1
      have lb := d10.lb
      have lg := d10.lg
      have hB := d10.b
      have hG := d10.g
      have w4b := d10.b4
      have w3g := d10.g3
      have hGb := d10.gB
      have t5 := d10.t
      have R5 := d10.r
      have z10 := t5.size
      replace qt := qt.touch t5 (by omega)
      replace qf := qf.touch t5 (by omega)
      replace qx := qx.touch t5 (by omega)
      replace T := T.trans t5
      replace P := P.touch t5 (fun k hk => .inl hk)
      replace P4 := P4.touch t5 (fun k hk => .inl hk)
      clear rd
      have rd := R5
      clear d10 t5 R5
      (try dsimp only)
      refine hK.out _ _ ⟨⟨qx.cell 0, qx.cell 1, qx.cell 2⟩, fun _ => trivial⟩ ?_
      clear hK
      refine wpAnyE_one (i := 4) (by kernel_rfl) rfl (fun Kn hK => ?_)
      go_simp
      refine (pick_any R a n' cap2 bs' q10 3 _ rd (by omega) (by omega) (by omega) (by omega)).mono ?_
      rintro e w11 ⟨s, s0', s3', rfl, t5, R5⟩
      have z11 := t5.size
      replace qt := qt.touch t5 (by omega)
      replace qf := qf.touch t5 (by omega)
      replace qx := qx.touch t5 (by omega)
      replace T := T.trans t5
      replace P := P.touch t5 (fun k hk => .inl hk)
      replace P4 := P4.touch t5 (fun k hk => .inl hk)
      clear rd
      have rd := R5
      replace hB := hB.off t5 (fun b o e hs => by have := lb b o e; omega)
      replace hG := hG.off t5 (fun b o e hs => by have := lg b o e; omega)
      clear t5 R5
      (try dsimp only)
      refine hK.out _ _ ⟨⟨qx.cell 0, qx.cell 1, qx.cell 2⟩, fun _ => trivial⟩ ?_
      clear hK
      refine wpAnyE_one (i := 6) (by kernel_rfl) rfl (fun Kn hK => ?_)
      go_simp
      refine (added_gen R a n' cap2 bs' (q10 + 1) 16 _ rd (by omega) (by omega) (by omega) (by omega) rd.ha).mono ?_
      rintro e w12 ⟨ea, en, ec, E, q12, rfl, d12⟩
      have y4 := d12.q0
      have y5 := d12.q1
      have le := d12.lo
      have hE := d12.i
      have he4 := d12.h4
      have t5 := d12.t
      have R5 := d12.r
      have z12 := t5.size
      replace qt := qt.touch t5 (by omega)
      replace qf := qf.touch t5 (by omega)
      replace qx := qx.touch t5 (by omega)
      replace T := T.trans t5
      replace P := P.touch t5 (fun k hk => .inl hk)
      replace P4 := P4.touch t5 (fun k hk => .inl hk)
      clear rd
      have rd := R5
      replace hB := hB.off t5 (fun b o e hs => by have := lb b o e; omega)
      replace hG := hG.off t5 (fun b o e hs => by have := lg b o e; omega)
      clear d12 t5 R5
      (try dsimp only)
      refine hK.out _ _ ⟨⟨qx.cell 0, qx.cell 1, qx.cell 2⟩, fun _ => trivial⟩ ?_
      clear hK
      refine wpAnyE_one (i := 9) (by kernel_rfl) rfl (fun Kn hK => ?_)
      go_simp
      refine (args_gen R a n' cap2 bs' q12 16 _ rd (by omega) (by omega) (by omega) (by omega) rd.ha).mono ?_
      rintro e w13 ⟨ua, un, uc, U, q13, rfl, d13⟩
      have lu := d13.lo
      have hU := d13.i
      have hu4 := d13.h4
      have t5 := d13.t
      have R5 := d13.r
      have z13 := t5.size
      replace qt := qt.touch t5 (by omega)
      replace qf := qf.touch t5 (by omega)
      replace qx := qx.touch t5 (by omega)
      replace T := T.trans t5
      replace P := P.touch t5 (fun k hk => .inl hk)
      replace P4 := P4.touch t5 (fun k hk => .inl hk)
      clear rd
      have rd := R5
      replace hB := hB.off t5 (fun b o e hs => by have := lb b o e; omega)
      replace hG := hG.off t5 (fun b o e hs => by have := lg b o e; omega)
      replace hE := hE.off t5 (fun b o e hs => by have := le b o e; omega)
      clear d13 t5 R5
      (try dsimp only)
      refine hK.out _ _ ⟨⟨qx.cell 0, qx.cell 1, qx.cell 2⟩, fun _ => trivial⟩ ?_
      clear hK
      have g0 := qt.cell 0
      have g1 := qt.cell 1
      have h0 := qt.free 0
      have h1 := qt.free 1
      have l0 := qt.lt
      simp only [List.getElem?_cons_zero, List.getElem?_cons_succ] at g0 g1
      refine wpAnyE_one (i := 10) (by kernel_rfl) rfl (fun Kn hK => ?_)
      go_simp
      clear g0 g1 h0 h1 l0
      have TS : Touch (fun x => x = w.heap.size) w13 ((w13.setCell ⟨w.heap.size, 0, none⟩ (.slice ba bn bc)).setCell ⟨w.heap.size, 1, none⟩ (.slice ga gn gc)) := Touch.setCell (S := fun x => x = w.heap.size) (Touch.setCell (S := fun x => x = w.heap.size) (Touch.refl _ _) rfl _) rfl _
      have zS := TS.size
      replace qt := (qt.set 0 (.slice ba bn bc)).set 1 (.slice ga gn gc)
      simp only [List.set_cons_succ, List.set_cons_zero] at qt
      replace qf := qf.touch TS (by omega)
      replace qx := qx.touch TS (by omega)
      replace P := P.touch TS (fun k hk => .inr (.inl hk))
      replace P4 := P4.touch TS (fun k hk => .inr (.inl hk))
      replace hB := hB.off TS (fun b o e hs => by have := lb b o e; omega)
      replace hG := hG.off TS (fun b o e hs => by have := lg b o e; omega)
      replace hE := hE.off TS (fun b o e hs => by have := le b o e; omega)
      replace hU := hU.off TS (fun b o e hs => by have := lu b o e; omega)
      have BB : Below w.heap.size w ((w13.setCell ⟨w.heap.size, 0, none⟩ (.slice ba bn bc)).setCell ⟨w.heap.size, 1, none⟩ (.slice ga gn gc)) := (((al.trans (b1.mono al.size)).trans (T.below (by omega) (fun k hk => by omega))).setCell (Nat.le_refl _) _).setCell (Nat.le_refl _) _
      obtain ⟨w14, hw14⟩ : ∃ W, W = (w13.setCell ⟨w.heap.size, 0, none⟩ (.slice ba bn bc)).setCell ⟨w.heap.size, 1, none⟩ (.slice ga gn gc) := ⟨_, rfl⟩
      rw [← hw14]
      rw [← hw14] at qt qf qx P P4 hB hG hE hU BB zS
      clear hw14 TS rd T
      refine hK.out _ _ ⟨⟨qx.cell 0, qx.cell 1, qx.cell 2⟩, fun _ => trivial⟩ ?_
      clear hK
      refine wpAnyE_one (i := 11) (by kernel_rfl) rfl (fun Kn hK => ?_)
      go_simp
      refine hK.out _ _ ⟨⟨qx.cell 0, qx.cell 1, qx.cell 2⟩, fun _ => trivial⟩ ?_
      clear hK
      refine wpAnyE_one (i := 12) (by kernel_rfl) rfl (fun Kn hK => ?_)
      go_simp
      refine hK.out _ _ ⟨⟨qx.cell 0, qx.cell 1, qx.cell 2⟩, fun _ => trivial⟩ ?_
      clear hK
      refine wpAnyE_one (i := 13) (by kernel_rfl) rfl (fun Kn hK => ?_)
      go_simp
      refine hK.out _ _ ⟨⟨qx.cell 0, qx.cell 1, qx.cell 2⟩, fun _ => trivial⟩ ?_
      clear hK
      have g0 := qf.cell 0
      have g1 := qf.cell 1
      have g2 := qf.cell 2
      have h0 := qf.free 0
      have h1 := qf.free 1
      have h2 := qf.free 2
      have l0 := qf.lt
      simp only [List.getElem?_cons_zero, List.getElem?_cons_succ] at g0 g1 g2
      refine wpAnyE_one (i := 14) (by kernel_rfl) rfl (fun Kn hK => ?_)
      go_simp
      clear g0 g1 g2 h0 h1 h2 l0
      have TS : Touch (fun x => x = w.heap.size + 1) w14 (((w14.setCell ⟨w.heap.size + 1, 0, none⟩ (.slice a8 3 p8)).setCell ⟨w.heap.size + 1, 1, none⟩ (.slice c8 2 p9)).setCell ⟨w.heap.size + 1, 2, none⟩ (.int .i64 F8.2.2)) := Touch.setCell (S := fun x => x = w.heap.size + 1) (Touch.setCell (S := fun x => x = w.heap.size + 1) (Touch.setCell (S := fun x => x = w.heap.size + 1) (Touch.refl _ _) rfl _) rfl _) rfl _
      replace qf := ((qf.set 0 (.slice a8 3 p8)).set 1 (.slice c8 2 p9)).set 2 (.int .i64 F8.2.2)
      simp only [List.set_cons_succ, List.set_cons_zero] at qf
      replace qt := qt.touch TS (by omega)
      replace qx := qx.touch TS (by omega)
      replace P := P.touch TS (fun k hk => .inr (.inr hk))
      replace P4 := P4.touch TS (fun k hk => .inr (.inr hk))
      replace hB := hB.off TS (fun b o e hs => by have := lb b o e; omega)
      replace hG := hG.off TS (fun b o e hs => by have := lg b o e; omega)
      replace hE := hE.off TS (fun b o e hs => by have := le b o e; omega)
      replace hU := hU.off TS (fun b o e hs => by have := lu b o e; omega)
      replace BB := ((BB.setCell (p := ⟨w.heap.size + 1, 0, none⟩) (by simp only []; omega) (.slice a8 3 p8)).setCell (p := ⟨w.heap.size + 1, 1, none⟩) (by simp only []; omega) (.slice c8 2 p9)).setCell (p := ⟨w.heap.size + 1, 2, none⟩) (by simp only []; omega) (.int .i64 F8.2.2)
      obtain ⟨w15, hw15⟩ : ∃ W, W = ((w14.setCell ⟨w.heap.size + 1, 0, none⟩ (.slice a8 3 p8)).setCell ⟨w.heap.size + 1, 1, none⟩ (.slice c8 2 p9)).setCell ⟨w.heap.size + 1, 2, none⟩ (.int .i64 F8.2.2) := ⟨_, rfl⟩
      rw [← hw15]
      rw [← hw15] at qt qf qx P P4 hB hG hE hU BB
      clear hw15 TS
      refine hK.out _ _ ⟨⟨qx.cell 0, qx.cell 1, qx.cell 2⟩, fun _ => trivial⟩ ?_
      clear hK
      refine wpAnyE_one (i := 15) (by kernel_rfl) rfl (fun Kn hK => ?_)
      go_simp
      refine hK.out _ _ ⟨⟨qx.cell 0, qx.cell 1, qx.cell 2⟩, fun _ => trivial⟩ ?_
      clear hK
      refine wpAnyE_done (by kernel_rfl) ?_ _
      have e0 := qt.cell 0
      have e1 := qt.cell 1
      have e2 := qf.cell 0
      have e3 := qf.cell 1
      have e4 := qf.cell 2
      simp only [List.getElem?_cons_zero, List.getElem?_cons_succ] at e0 e1 e2 e3 e4
      clear qt qf qx
      go_wp2
      exact bodyPost_ret (v := .tuple #[treV ba bn bc ga gn gc, .slice (some ⟨G0, 0, none⟩) nt cG, .int .i64 s, .slice ea en ec, formV a8 3 p8 c8 2 p9 F8.2.2, .slice ua un uc]) (by simp [results, Try.results31, go_sem, e0, e1, e2, e3, e4]) rfl ⟨ba, bn, bc, ga, gn, gc, B, G, _, nt, cG, ts, s, ea, en, ec, E, _, 3, p8, _, 2, p9, F8, ua, un, uc, U, rfl, BB, hB, hG, w4b, w3g, hGb, P.g, HL.out, hnt, hE, he4, P4.fa', hU, hu4, by omega, by omega⟩
    · have hg' : ¬ (0 : Int) < ((gl.length : Nat) : Int) := by omega
      skip
      go_upto_region 8 with fail
      refine wp_region_ends (fun Y => Y.cell? ⟨X, 0, none⟩ = some (.slice (some ⟨B1, 0, none⟩) nC cC) ∧ Y.cell? ⟨X, 1, none⟩ = some (.slice (some ⟨B2, 0, none⟩) nD cD) ∧ Y.cell? ⟨X, 2, none⟩ = some (.int .i64 K)) (fun _ => True) 16 (by kernel_rfl) ?_
      have dr : Below w7.heap.size w7 w7.drew := (Below.refl _ _).drew
      have zd := dr.size
      replace qt := qt.below dr
      replace qf := qf.below dr
      replace qx := qx.below dr
      replace T := T.trans (Touch.of dr)
      replace P := P.below dr
      replace P4 := P4.below dr
      replace rd := rd.below dr
      clear dr
      obtain ⟨V, hV⟩ : ∃ V, V = w7.drew := ⟨_, rfl⟩
      rw [← hV]
      rw [← hV] at qt qf qx T P P4 rd zd
      clear hV
      have hSS : (fun Y : World => Y.cell? ⟨X, 0, none⟩ = some (.slice (some ⟨B1, 0, none⟩) nC cC) ∧ Y.cell? ⟨X, 1, none⟩ = some (.slice (some ⟨B2, 0, none⟩) nD cD) ∧ Y.cell? ⟨X, 2, none⟩ = some (.int .i64 K)) V ∧ True := ⟨⟨qx.cell 0, qx.cell 1, qx.cell 2⟩, trivial⟩
      refine tkL (i := 0) rfl hSS ?_
      refine tkL (i := 2) rfl hSS ?_
      refine tkL (i := 3) rfl hSS ?_
      simp only [Act.put, List.setIfInBounds_toArray, List.set_cons_succ, List.set_cons_zero, List.getElem_toArray, List.getElem_cons_succ, List.getElem_cons_zero]
      refine tkL (i := 5) rfl hSS ?_
      refine tkL (i := 7) rfl hSS ?_
      refine tkL (i := 8) rfl hSS ?_
      simp only [Act.put, List.setIfInBounds_toArray, List.set_cons_succ, List.set_cons_zero, List.getElem_toArray, List.getElem_cons_succ, List.getElem_cons_zero]
      clear hSS
      refine wpAnyE_one (i := 1) (by kernel_rfl) rfl (fun Kn hK => ?_)
      go_simp
      refine (treaty_f R a n' cap2 bs' (q4 + 1) 16 _ rd (by omega) (by omega) (by omega) (by omega) rd.ha).mono ?_
      rintro e w10 ⟨ba, bn, bc, ga, gn, gc, B, G, q10, rfl, d10⟩
      have y2 := d10.q0
      have y3 := d10.q1
      have lb := d10.lb
      have lg := d10.lg
      have hB := d10.b
      have hG := d10.g
      have w4b := d10.b4
      have w3g := d10.g3
      have hGb := d10.gB
      have t5 := d10.t
      have R5 := d10.r
      have z10 := t5.size
      replace qt := qt.touch t5 (by omega)
      replace qf := qf.touch t5 (by omega)
      replace qx := qx.touch t5 (by omega)
      replace T := T.trans t5
      replace P := P.touch t5 (fun k hk => .inl hk)
      replace P4 := P4.touch t5 (fun k hk => .inl hk)
      clear rd
      have rd := R5
      clear d10 t5 R5
      (try dsimp only)
      refine hK.out _ _ ⟨⟨qx.cell 0, qx.cell 1, qx.cell 2⟩, fun _ => trivial⟩ ?_
      clear hK
      refine wpAnyE_one (i := 4) (by kernel_rfl) rfl (fun Kn hK => ?_)
      go_simp
      refine (pick_any R a n' cap2 bs' q10 3 _ rd (by omega) (by omega) (by omega) (by omega)).mono ?_
      rintro e w11 ⟨s, s0', s3', rfl, t5, R5⟩
      have z11 := t5.size
      replace qt := qt.touch t5 (by omega)
      replace qf := qf.touch t5 (by omega)
      replace qx := qx.touch t5 (by omega)
      replace T := T.trans t5
      replace P := P.touch t5 (fun k hk => .inl hk)
      replace P4 := P4.touch t5 (fun k hk => .inl hk)
      clear rd
      have rd := R5
      replace hB := hB.off t5 (fun b o e hs => by have := lb b o e; omega)
      replace hG := hG.off t5 (fun b o e hs => by have := lg b o e; omega)
      clear t5 R5
      (try dsimp only)
      refine hK.out _ _ ⟨⟨qx.cell 0, qx.cell 1, qx.cell 2⟩, fun _ => trivial⟩ ?_
      clear hK
      refine wpAnyE_one (i := 6) (by kernel_rfl) rfl (fun Kn hK => ?_)
      go_simp
      refine (added_gen R a n' cap2 bs' (q10 + 1) 16 _ rd (by omega) (by omega) (by omega) (by omega) rd.ha).mono ?_
      rintro e w12 ⟨ea, en, ec, E, q12, rfl, d12⟩
      have y4 := d12.q0
      have y5 := d12.q1
      have le := d12.lo
      have hE := d12.i
      have he4 := d12.h4
      have t5 := d12.t
      have R5 := d12.r
      have z12 := t5.size
      replace qt := qt.touch t5 (by omega)
      replace qf := qf.touch t5 (by omega)
      replace qx := qx.touch t5 (by omega)
      replace T := T.trans t5
      replace P := P.touch t5 (fun k hk => .inl hk)
      replace P4 := P4.touch t5 (fun k hk => .inl hk)
      clear rd
      have rd := R5
      replace hB := hB.off t5 (fun b o e hs => by have := lb b o e; omega)
      replace hG := hG.off t5 (fun b o e hs => by have := lg b o e; omega)
      clear d12 t5 R5
      (try dsimp only)
      refine hK.out _ _ ⟨⟨qx.cell 0, qx.cell 1, qx.cell 2⟩, fun _ => trivial⟩ ?_
      clear hK
      refine wpAnyE_one (i := 9) (by kernel_rfl) rfl (fun Kn hK => ?_)
      go_simp
      refine (args_gen R a n' cap2 bs' q12 16 _ rd (by omega) (by omega) (by omega) (by omega) rd.ha).mono ?_
      rintro e w13 ⟨ua, un, uc, U, q13, rfl, d13⟩
      have lu := d13.lo
      have hU := d13.i
      have hu4 := d13.h4
      have t5 := d13.t
      have R5 := d13.r
      have z13 := t5.size
      replace qt := qt.touch t5 (by omega)
      replace qf := qf.touch t5 (by omega)
      replace qx := qx.touch t5 (by omega)
      replace T := T.trans t5
      replace P := P.touch t5 (fun k hk => .inl hk)
      replace P4 := P4.touch t5 (fun k hk => .inl hk)
      clear rd
      have rd := R5
      replace hB := hB.off t5 (fun b o e hs => by have := lb b o e; omega)
      replace hG := hG.off t5 (fun b o e hs => by have := lg b o e; omega)
      replace hE := hE.off t5 (fun b o e hs => by have := le b o e; omega)
      clear d13 t5 R5
      (try dsimp only)
      refine hK.out _ _ ⟨⟨qx.cell 0, qx.cell 1, qx.cell 2⟩, fun _ => trivial⟩ ?_
      clear hK
      have g0 := qt.cell 0
      have g1 := qt.cell 1
      have h0 := qt.free 0
      have h1 := qt.free 1
      have l0 := qt.lt
      simp only [List.getElem?_cons_zero, List.getElem?_cons_succ] at g0 g1
      refine wpAnyE_one (i := 10) (by kernel_rfl) rfl (fun Kn hK => ?_)
      go_simp
      clear g0 g1 h0 h1 l0
      have TS : Touch (fun x => x = w.heap.size) w13 ((w13.setCell ⟨w.heap.size, 0, none⟩ (.slice ba bn bc)).setCell ⟨w.heap.size, 1, none⟩ (.slice ga gn gc)) := Touch.setCell (S := fun x => x = w.heap.size) (Touch.setCell (S := fun x => x = w.heap.size) (Touch.refl _ _) rfl _) rfl _
      have zS := TS.size
      replace qt := (qt.set 0 (.slice ba bn bc)).set 1 (.slice ga gn gc)
      simp only [List.set_cons_succ, List.set_cons_zero] at qt
      replace qf := qf.touch TS (by omega)
      replace qx := qx.touch TS (by omega)
      replace P := P.touch TS (fun k hk => .inr (.inl hk))
      replace P4 := P4.touch TS (fun k hk => .inr (.inl hk))
      replace hB := hB.off TS (fun b o e hs => by have := lb b o e; omega)
      replace hG := hG.off TS (fun b o e hs => by have := lg b o e; omega)
      replace hE := hE.off TS (fun b o e hs => by have := le b o e; omega)
      replace hU := hU.off TS (fun b o e hs => by have := lu b o e; omega)
      have BB : Below w.heap.size w ((w13.setCell ⟨w.heap.size, 0, none⟩ (.slice ba bn bc)).setCell ⟨w.heap.size, 1, none⟩ (.slice ga gn gc)) := (((al.trans (b1.mono al.size)).trans (T.below (by omega) (fun k hk => by omega))).setCell (Nat.le_refl _) _).setCell (Nat.le_refl _) _
      obtain ⟨w14, hw14⟩ : ∃ W, W = (w13.setCell ⟨w.heap.size, 0, none⟩ (.slice ba bn bc)).setCell ⟨w.heap.size, 1, none⟩ (.slice ga gn gc) := ⟨_, rfl⟩
      rw [← hw14]
      rw [← hw14] at qt qf qx P P4 hB hG hE hU BB zS
      clear hw14 TS rd T
      refine hK.out _ _ ⟨⟨qx.cell 0, qx.cell 1, qx.cell 2⟩, fun _ => trivial⟩ ?_
      clear hK
      refine wpAnyE_one (i := 11) (by kernel_rfl) rfl (fun Kn hK => ?_)
      go_simp
      refine hK.out _ _ ⟨⟨qx.cell 0, qx.cell 1, qx.cell 2⟩, fun _ => trivial⟩ ?_
      clear hK
      refine wpAnyE_one (i := 12) (by kernel_rfl) rfl (fun Kn hK => ?_)
      go_simp
      refine hK.out _ _ ⟨⟨qx.cell 0, qx.cell 1, qx.cell 2⟩, fun _ => trivial⟩ ?_
      clear hK
      refine wpAnyE_one (i := 13) (by kernel_rfl) rfl (fun Kn hK => ?_)
      go_simp
      refine hK.out _ _ ⟨⟨qx.cell 0, qx.cell 1, qx.cell 2⟩, fun _ => trivial⟩ ?_
      clear hK
      have g0 := qf.cell 0
      have g1 := qf.cell 1
      have g2 := qf.cell 2
      have h0 := qf.free 0
      have h1 := qf.free 1
      have h2 := qf.free 2
      have l0 := qf.lt
      simp only [List.getElem?_cons_zero, List.getElem?_cons_succ] at g0 g1 g2
      refine wpAnyE_one (i := 14) (by kernel_rfl) rfl (fun Kn hK => ?_)
      go_simp
      clear g0 g1 g2 h0 h1 h2 l0
      have TS : Touch (fun x => x = w.heap.size + 1) w14 (((w14.setCell ⟨w.heap.size + 1, 0, none⟩ (.slice (some ⟨B1, 0, none⟩) nC cC)).setCell ⟨w.heap.size + 1, 1, none⟩ (.slice (some ⟨B2, 0, none⟩) nD cD)).setCell ⟨w.heap.size + 1, 2, none⟩ (.int .i64 K)) := Touch.setCell (S := fun x => x = w.heap.size + 1) (Touch.setCell (S := fun x => x = w.heap.size + 1) (Touch.setCell (S := fun x => x = w.heap.size + 1) (Touch.refl _ _) rfl _) rfl _) rfl _
      replace qf := ((qf.set 0 (.slice (some ⟨B1, 0, none⟩) nC cC)).set 1 (.slice (some ⟨B2, 0, none⟩) nD cD)).set 2 (.int .i64 K)
      simp only [List.set_cons_succ, List.set_cons_zero] at qf
      replace qt := qt.touch TS (by omega)
      replace qx := qx.touch TS (by omega)
      replace P := P.touch TS (fun k hk => .inr (.inr hk))
      replace P4 := P4.touch TS (fun k hk => .inr (.inr hk))
      replace hB := hB.off TS (fun b o e hs => by have := lb b o e; omega)
      replace hG := hG.off TS (fun b o e hs => by have := lg b o e; omega)
      replace hE := hE.off TS (fun b o e hs => by have := le b o e; omega)
      replace hU := hU.off TS (fun b o e hs => by have := lu b o e; omega)
      replace BB := ((BB.setCell (p := ⟨w.heap.size + 1, 0, none⟩) (by simp only []; omega) (.slice (some ⟨B1, 0, none⟩) nC cC)).setCell (p := ⟨w.heap.size + 1, 1, none⟩) (by simp only []; omega) (.slice (some ⟨B2, 0, none⟩) nD cD)).setCell (p := ⟨w.heap.size + 1, 2, none⟩) (by simp only []; omega) (.int .i64 K)
      obtain ⟨w15, hw15⟩ : ∃ W, W = ((w14.setCell ⟨w.heap.size + 1, 0, none⟩ (.slice (some ⟨B1, 0, none⟩) nC cC)).setCell ⟨w.heap.size + 1, 1, none⟩ (.slice (some ⟨B2, 0, none⟩) nD cD)).setCell ⟨w.heap.size + 1, 2, none⟩ (.int .i64 K) := ⟨_, rfl⟩
      rw [← hw15]
      rw [← hw15] at qt qf qx P P4 hB hG hE hU BB
      clear hw15 TS
      refine hK.out _ _ ⟨⟨qx.cell 0, qx.cell 1, qx.cell 2⟩, fun _ => trivial⟩ ?_
      clear hK
      refine wpAnyE_one (i := 15) (by kernel_rfl) rfl (fun Kn hK => ?_)
      go_simp
      refine hK.out _ _ ⟨⟨qx.cell 0, qx.cell 1, qx.cell 2⟩, fun _ => trivial⟩ ?_
      clear hK
      refine wpAnyE_done (by kernel_rfl) ?_ _
      have e0 := qt.cell 0
      have e1 := qt.cell 1
      have e2 := qf.cell 0
      have e3 := qf.cell 1
      have e4 := qf.cell 2
      simp only [List.getElem?_cons_zero, List.getElem?_cons_succ] at e0 e1 e2 e3 e4
      clear qt qf qx
      go_wp2
      exact bodyPost_ret (v := .tuple #[treV ba bn bc ga gn gc, .slice (some ⟨G0, 0, none⟩) nt cG, .int .i64 s, .slice ea en ec, formV (some ⟨B1, 0, none⟩) nC cC (some ⟨B2, 0, none⟩) nD cD K, .slice ua un uc]) (by simp [results, Try.results31, go_sem, e0, e1, e2, e3, e4]) rfl ⟨ba, bn, bc, ga, gn, gc, B, G, _, nt, cG, ts, s, ea, en, ec, E, _, nC, cC, _, nD, cD, (LC, LD, K), ua, un, uc, U, rfl, BB, hB, hG, w4b, w3g, hGb, P.g, HL.out, hnt, hE, he4, P4.fa', hU, hu4, by omega, by omega⟩
  · have hu' : (u == 0) = false := by simpa using hu
    skip
    go_upto_region 8 with fail
    refine wp_region_ends (fun Y => Y.cell? ⟨X, 0, none⟩ = some (.slice (some ⟨B1, 0, none⟩) nC cC) ∧ Y.cell? ⟨X, 1, none⟩ = some (.slice (some ⟨B2, 0, none⟩) nD cD) ∧ Y.cell? ⟨X, 2, none⟩ = some (.int .i64 K)) (fun _ => True) 16 (by kernel_rfl) ?_
    have dr : Below w7.heap.size w7 w7.drew := (Below.refl _ _).drew
    have zd := dr.size
    replace qt := qt.below dr
    replace qf := qf.below dr
    replace qx := qx.below dr
    replace T := T.trans (Touch.of dr)
    replace P := P.below dr
    replace P4 := P4.below dr
    replace rd := rd.below dr
    clear dr
    obtain ⟨V, hV⟩ : ∃ V, V = w7.drew := ⟨_, rfl⟩
    rw [← hV]
    rw [← hV] at qt qf qx T P P4 rd zd
    clear hV
    have hSS : (fun Y : World => Y.cell? ⟨X, 0, none⟩ = some (.slice (some ⟨B1, 0, none⟩) nC cC) ∧ Y.cell? ⟨X, 1, none⟩ = some (.slice (some ⟨B2, 0, none⟩) nD cD) ∧ Y.cell? ⟨X, 2, none⟩ = some (.int .i64 K)) V ∧ True := ⟨⟨qx.cell 0, qx.cell 1, qx.cell 2⟩, trivial⟩
    refine tkL (i := 0) rfl hSS ?_
    refine tkL (i := 2) rfl hSS ?_
    refine tkL (i := 3) rfl hSS ?_
    simp only [Act.put, List.setIfInBounds_toArray, List.set_cons_succ, List.set_cons_zero, List.getElem_toArray, List.getElem_cons_succ, List.getElem_cons_zero]
    refine tkL (i := 5) rfl hSS ?_
    refine tkL (i := 7) rfl hSS ?_
    refine tkL (i := 8) rfl hSS ?_
    simp only [Act.put, List.setIfInBounds_toArray, List.set_cons_succ, List.set_cons_zero, List.getElem_toArray, List.getElem_cons_succ, List.getElem_cons_zero]
    clear hSS
    refine wpAnyE_one (i := 1) (by kernel_rfl) rfl (fun Kn hK => ?_)
    go_simp
    refine (treaty_f R a n' cap2 bs' (q4 + 1) 16 _ rd (by omega) (by omega) (by omega) (by omega) rd.ha).mono ?_
    rintro e w10 ⟨ba, bn, bc, ga, gn, gc, B, G, q10, rfl, d10⟩
    have y2 := d10.q0
    have y3 := d10.q1
    have lb := d10.lb
    have lg := d10.lg
    have hB := d10.b
    have hG := d10.g
    have w4b := d10.b4
    have w3g := d10.g3
    have hGb := d10.gB
    have t5 := d10.t
    have R5 := d10.r
    have z10 := t5.size
    replace qt := qt.touch t5 (by omega)
    replace qf := qf.touch t5 (by omega)
    replace qx := qx.touch t5 (by omega)
    replace T := T.trans t5
    replace P := P.touch t5 (fun k hk => .inl hk)
    replace P4 := P4.touch t5 (fun k hk => .inl hk)
    clear rd
    have rd := R5
    clear d10 t5 R5
    (try dsimp only)
    refine hK.out _ _ ⟨⟨qx.cell 0, qx.cell 1, qx.cell 2⟩, fun _ => trivial⟩ ?_
    clear hK
    refine wpAnyE_one (i := 4) (by kernel_rfl) rfl (fun Kn hK => ?_)
    go_simp
    refine (pick_any R a n' cap2 bs' q10 3 _ rd (by omega) (by omega) (by omega) (by omega)).mono ?_
    rintro e w11 ⟨s, s0', s3', rfl, t5, R5⟩
    have z11 := t5.size
    replace qt := qt.touch t5 (by omega)
    replace qf := qf.touch t5 (by omega)
    replace qx := qx.touch t5 (by omega)
    replace T := T.trans t5
    replace P := P.touch t5 (fun k hk => .inl hk)
    replace P4 := P4.touch t5 (fun k hk => .inl hk)
    clear rd
    have rd := R5
    replace hB := hB.off t5 (fun b o e hs => by have := lb b o e; omega)
    replace hG := hG.off t5 (fun b o e hs => by have := lg b o e; omega)
    clear t5 R5
    (try dsimp only)
    refine hK.out _ _ ⟨⟨qx.cell 0, qx.cell 1, qx.cell 2⟩, fun _ => trivial⟩ ?_
    clear hK
    refine wpAnyE_one (i := 6) (by kernel_rfl) rfl (fun Kn hK => ?_)
    go_simp
    refine (added_gen R a n' cap2 bs' (q10 + 1) 16 _ rd (by omega) (by omega) (by omega) (by omega) rd.ha).mono ?_
    rintro e w12 ⟨ea, en, ec, E, q12, rfl, d12⟩
    have y4 := d12.q0
    have y5 := d12.q1
    have le := d12.lo
    have hE := d12.i
    have he4 := d12.h4
    have t5 := d12.t
    have R5 := d12.r
    have z12 := t5.size
    replace qt := qt.touch t5 (by omega)
    replace qf := qf.touch t5 (by omega)
    replace qx := qx.touch t5 (by omega)
    replace T := T.trans t5
    replace P := P.touch t5 (fun k hk => .inl hk)
    replace P4 := P4.touch t5 (fun k hk => .inl hk)
    clear rd
    have rd := R5
    replace hB := hB.off t5 (fun b o e hs => by have := lb b o e; omega)
    replace hG := hG.off t5 (fun b o e hs => by have := lg b o e; omega)
    clear d12 t5 R5
    (try dsimp only)
    refine hK.out _ _ ⟨⟨qx.cell 0, qx.cell 1, qx.cell 2⟩, fun _ => trivial⟩ ?_
    clear hK
    refine wpAnyE_one (i := 9) (by kernel_rfl) rfl (fun Kn hK => ?_)
    go_simp
    refine (args_gen R a n' cap2 bs' q12 16 _ rd (by omega) (by omega) (by omega) (by omega) rd.ha).mono ?_
    rintro e w13 ⟨ua, un, uc, U, q13, rfl, d13⟩
    have lu := d13.lo
    have hU := d13.i
    have hu4 := d13.h4
    have t5 := d13.t
    have R5 := d13.r
    have z13 := t5.size
    replace qt := qt.touch t5 (by omega)
    replace qf := qf.touch t5 (by omega)
    replace qx := qx.touch t5 (by omega)
    replace T := T.trans t5
    replace P := P.touch t5 (fun k hk => .inl hk)
    replace P4 := P4.touch t5 (fun k hk => .inl hk)
    clear rd
    have rd := R5
    replace hB := hB.off t5 (fun b o e hs => by have := lb b o e; omega)
    replace hG := hG.off t5 (fun b o e hs => by have := lg b o e; omega)
    replace hE := hE.off t5 (fun b o e hs => by have := le b o e; omega)
    clear d13 t5 R5
    (try dsimp only)
    refine hK.out _ _ ⟨⟨qx.cell 0, qx.cell 1, qx.cell 2⟩, fun _ => trivial⟩ ?_
    clear hK
    have g0 := qt.cell 0
    have g1 := qt.cell 1
    have h0 := qt.free 0
    have h1 := qt.free 1
    have l0 := qt.lt
    simp only [List.getElem?_cons_zero, List.getElem?_cons_succ] at g0 g1
    refine wpAnyE_one (i := 10) (by kernel_rfl) rfl (fun Kn hK => ?_)
    go_simp
    clear g0 g1 h0 h1 l0
    have TS : Touch (fun x => x = w.heap.size) w13 ((w13.setCell ⟨w.heap.size, 0, none⟩ (.slice ba bn bc)).setCell ⟨w.heap.size, 1, none⟩ (.slice ga gn gc)) := Touch.setCell (S := fun x => x = w.heap.size) (Touch.setCell (S := fun x => x = w.heap.size) (Touch.refl _ _) rfl _) rfl _
    have zS := TS.size
    replace qt := (qt.set 0 (.slice ba bn bc)).set 1 (.slice ga gn gc)
    simp only [List.set_cons_succ, List.set_cons_zero] at qt
    replace qf := qf.touch TS (by omega)
    replace qx := qx.touch TS (by omega)
    replace P := P.touch TS (fun k hk => .inr (.inl hk))
    replace P4 := P4.touch TS (fun k hk => .inr (.inl hk))
    replace hB := hB.off TS (fun b o e hs => by have := lb b o e; omega)
    replace hG := hG.off TS (fun b o e hs => by have := lg b o e; omega)
    replace hE := hE.off TS (fun b o e hs => by have := le b o e; omega)
    replace hU := hU.off TS (fun b o e hs => by have := lu b o e; omega)
    have BB : Below w.heap.size w ((w13.setCell ⟨w.heap.size, 0, none⟩ (.slice ba bn bc)).setCell ⟨w.heap.size, 1, none⟩ (.slice ga gn gc)) := (((al.trans (b1.mono al.size)).trans (T.below (by omega) (fun k hk => by omega))).setCell (Nat.le_refl _) _).setCell (Nat.le_refl _) _
    obtain ⟨w14, hw14⟩ : ∃ W, W = (w13.setCell ⟨w.heap.size, 0, none⟩ (.slice ba bn bc)).setCell ⟨w.heap.size, 1, none⟩ (.slice ga gn gc) := ⟨_, rfl⟩
    rw [← hw14]
    rw [← hw14] at qt qf qx P P4 hB hG hE hU BB zS
    clear hw14 TS rd T
    refine hK.out _ _ ⟨⟨qx.cell 0, qx.cell 1, qx.cell 2⟩, fun _ => trivial⟩ ?_
    clear hK
    refine wpAnyE_one (i := 11) (by kernel_rfl) rfl (fun Kn hK => ?_)
    go_simp
    refine hK.out _ _ ⟨⟨qx.cell 0, qx.cell 1, qx.cell 2⟩, fun _ => trivial⟩ ?_
    clear hK
    refine wpAnyE_one (i := 12) (by kernel_rfl) rfl (fun Kn hK => ?_)
    go_simp
    refine hK.out _ _ ⟨⟨qx.cell 0, qx.cell 1, qx.cell 2⟩, fun _ => trivial⟩ ?_
    clear hK
    refine wpAnyE_one (i := 13) (by kernel_rfl) rfl (fun Kn hK => ?_)
    go_simp
    refine hK.out _ _ ⟨⟨qx.cell 0, qx.cell 1, qx.cell 2⟩, fun _ => trivial⟩ ?_
    clear hK
    have g0 := qf.cell 0
    have g1 := qf.cell 1
    have g2 := qf.cell 2
    have h0 := qf.free 0
    have h1 := qf.free 1
    have h2 := qf.free 2
    have l0 := qf.lt
    simp only [List.getElem?_cons_zero, List.getElem?_cons_succ] at g0 g1 g2
    refine wpAnyE_one (i := 14) (by kernel_rfl) rfl (fun Kn hK => ?_)
    go_simp
    clear g0 g1 g2 h0 h1 h2 l0
    have TS : Touch (fun x => x = w.heap.size + 1) w14 (((w14.setCell ⟨w.heap.size + 1, 0, none⟩ (.slice (some ⟨B1, 0, none⟩) nC cC)).setCell ⟨w.heap.size + 1, 1, none⟩ (.slice (some ⟨B2, 0, none⟩) nD cD)).setCell ⟨w.heap.size + 1, 2, none⟩ (.int .i64 K)) := Touch.setCell (S := fun x => x = w.heap.size + 1) (Touch.setCell (S := fun x => x = w.heap.size + 1) (Touch.setCell (S := fun x => x = w.heap.size + 1) (Touch.refl _ _) rfl _) rfl _) rfl _
    replace qf := ((qf.set 0 (.slice (some ⟨B1, 0, none⟩) nC cC)).set 1 (.slice (some ⟨B2, 0, none⟩) nD cD)).set 2 (.int .i64 K)
    simp only [List.set_cons_succ, List.set_cons_zero] at qf
    replace qt := qt.touch TS (by omega)
    replace qx := qx.touch TS (by omega)
    replace P := P.touch TS (fun k hk => .inr (.inr hk))
    replace P4 := P4.touch TS (fun k hk => .inr (.inr hk))
    replace hB := hB.off TS (fun b o e hs => by have := lb b o e; omega)
    replace hG := hG.off TS (fun b o e hs => by have := lg b o e; omega)
    replace hE := hE.off TS (fun b o e hs => by have := le b o e; omega)
    replace hU := hU.off TS (fun b o e hs => by have := lu b o e; omega)
    replace BB := ((BB.setCell (p := ⟨w.heap.size + 1, 0, none⟩) (by simp only []; omega) (.slice (some ⟨B1, 0, none⟩) nC cC)).setCell (p := ⟨w.heap.size + 1, 1, none⟩) (by simp only []; omega) (.slice (some ⟨B2, 0, none⟩) nD cD)).setCell (p := ⟨w.heap.size + 1, 2, none⟩) (by simp only []; omega) (.int .i64 K)
    obtain ⟨w15, hw15⟩ : ∃ W, W = ((w14.setCell ⟨w.heap.size + 1, 0, none⟩ (.slice (some ⟨B1, 0, none⟩) nC cC)).setCell ⟨w.heap.size + 1, 1, none⟩ (.slice (some ⟨B2, 0, none⟩) nD cD)).setCell ⟨w.heap.size + 1, 2, none⟩ (.int .i64 K) := ⟨_, rfl⟩
    rw [← hw15]
    rw [← hw15] at qt qf qx P P4 hB hG hE hU BB
    clear hw15 TS
    refine hK.out _ _ ⟨⟨qx.cell 0, qx.cell 1, qx.cell 2⟩, fun _ => trivial⟩ ?_
    clear hK
    refine wpAnyE_one (i := 15) (by kernel_rfl) rfl (fun Kn hK => ?_)
    go_simp
    refine hK.out _ _ ⟨⟨qx.cell 0, qx.cell 1, qx.cell 2⟩, fun _ => trivial⟩ ?_
    clear hK
    refine wpAnyE_done (by kernel_rfl) ?_ _
    have e0 := qt.cell 0
    have e1 := qt.cell 1
    have e2 := qf.cell 0
    have e3 := qf.cell 1
    have e4 := qf.cell 2
    simp only [List.getElem?_cons_zero, List.getElem?_cons_succ] at e0 e1 e2 e3 e4
    clear qt qf qx
    go_wp2
    exact bodyPost_ret (v := .tuple #[treV ba bn bc ga gn gc, .slice (some ⟨G0, 0, none⟩) nt cG, .int .i64 s, .slice ea en ec, formV (some ⟨B1, 0, none⟩) nC cC (some ⟨B2, 0, none⟩) nD cD K, .slice ua un uc]) (by simp [results, Try.results31, go_sem, e0, e1, e2, e3, e4]) rfl ⟨ba, bn, bc, ga, gn, gc, B, G, _, nt, cG, ts, s, ea, en, ec, E, _, nC, cC, _, nD, cD, (LC, LD, K), ua, un, uc, U, rfl, BB, hB, hG, w4b, w3g, hGb, P.g, HL.out, hnt, hE, he4, P4.fa', hU, hu4, by omega, by omega⟩

end Go.Proofs.Ytpnldfembbfgdaa
namespace Go.Proofs.Ytpnldfembbfgdaa
open Go.RowKit
set_option linter.unusedVariables false

/-- A treaty is ok. -/
def trtB (n m : Nat) (C D : List Int) : Bool := okN 3 10000 n C && (inB m 1 3 && betB 0 50 D)

set_option maxHeartbeats 800000 in
theorem strt_any (a : Option Addr) (n cap : Nat) (c : Option Addr) (m cap' : Nat) (C D : List Int) (w : World) (hC : Ints w a n C) (hD : Ints w c m D) (hn : n ≤ 1048576) (hm : m ≤ 1048576) :
    Calls Try.prog 27 #[treV a n cap c m cap'] w fun e w' => e = .returned (.bool (trtB n m C D)) ∧ Below w.heap.size w w' := by
  have HD : Hid (D.length = m) := hD.1
  cases h1 : okN 3 10000 n C
  · go_enter Try.func27, Try.ntmps27
    go_wp2_with fail
    refine (sval_any _ _ _ C _ (hC.alloc _) hn).mono ?_
    rintro e w1 ⟨rfl, rfl⟩
    go_wp2
    go_ret
    exact ⟨ret_bool (by simp [trtB, h1]), (Below.refl _ _).alloc (Nat.le_refl _) _⟩
  · cases h2 : inB m 1 3
    · go_enter Try.func27, Try.ntmps27
      go_wp2_with fail
      refine (sval_any _ _ _ C _ (hC.alloc _) hn).mono ?_
      rintro e w1 ⟨rfl, rfl⟩
      go_wp2_with fail
      refine (in_any _ _ _ _).mono ?_
      rintro e w1 ⟨rfl, rfl⟩
      go_wp2
      go_ret
      exact ⟨ret_bool (by simp [trtB, h2]), (Below.refl _ _).alloc (Nat.le_refl _) _⟩
    · go_enter Try.func27, Try.ntmps27
      go_wp2_with fail
      refine (sval_any _ _ _ C _ (hC.alloc _) hn).mono ?_
      rintro e w1 ⟨rfl, rfl⟩
      go_wp2_with fail
      refine (in_any _ _ _ _).mono ?_
      rintro e w1 ⟨rfl, rfl⟩
      go_wp2_with fail
      go_loop [3] (fun i => ∃ k : Nat, k ≤ m ∧ i = .int .i64 k ∧ betB 0 50 (D.take k) = true) (fun i => m - (intOf i).toNat)
      case atStart => exact ⟨0, Nat.zero_le _, rfl, rfl⟩
      case round =>
        obtain ⟨k, hk, rfl, hall⟩ := hrel
        have HA : Hid (betB 0 50 (D.take k) = true) := hall
        clear hall
        by_cases hlt : k < m
        · obtain ⟨b, off, rfl, hcell⟩ := (hD.alloc (.cells #[.slice a n cap, .slice c m cap'] 45 (0, 0))).pos (by omega)
          have hck := hcell k hlt
          clear hcell hC hD
          cases hin : inB (D[k]?.getD 0) 0 50
          · go_wp2_with fail
            refine (in_any _ _ _ _).mono ?_
            rintro e w1 ⟨rfl, rfl⟩
            go_wp2
            go_ret
            exact ⟨ret_bool (by rw [trtB, betB_false (by rw [HD.out]; exact hlt) hin]; simp), (Below.refl _ _).alloc (Nat.le_refl _) _⟩
          · go_wp2_with fail
            refine (in_any _ _ _ _).mono ?_
            rintro e w1 ⟨rfl, rfl⟩
            go_wp2
            go_round
            case rel => exact ⟨k + 1, by omega, by go_num, betB_step (by rw [HD.out]; exact hlt) HA.out hin⟩
            case measure => simp [intOf]; omega
        · go_wp2
          go_ret
          exact ⟨ret_bool (by rw [trtB, h1, h2, betB_end (by rw [HD.out]; omega) HA.out]; rfl), (Below.refl _ _).alloc (Nat.le_refl _) _⟩

set_option maxHeartbeats 800000 in
theorem itrt_any (a : Option Addr) (n cap : Nat) (c : Option Addr) (m cap' : Nat) (C D : List Int) (w : World) (hC : Ints w a n C) (hD : Ints w c m D) (hn : n ≤ 1048576) (hm : m ≤ 1048576) :
    Calls Try.prog 26 #[treV a n cap c m cap'] w fun e w' => e = .returned (.bool (trtB n m C D)) ∧ Below w.heap.size w w' := by
  cases h1 : okN 3 10000 n C
  · go_enter Try.func26, Try.ntmps26
    go_wp2_with fail
    refine (ival_any _ _ _ C _ (hC.alloc _) hn).mono ?_
    rintro e w1 ⟨rfl, rfl⟩
    go_wp2
    go_ret
    exact ⟨ret_bool (by simp [trtB, h1]), (Below.refl _ _).alloc (Nat.le_refl _) _⟩
  · by_cases h2 : 1 ≤ m
    · by_cases h3 : m ≤ 3
      · have h4 : inB m 1 3 = true := inB_iff.2 ⟨by omega, by omega⟩
        have H4 : Hid _ := h4
        clear h4
        go_enter Try.func26, Try.ntmps26
        go_wp2_with fail
        refine (ival_any _ _ _ C _ (hC.alloc _) hn).mono ?_
        rintro e w1 ⟨rfl, rfl⟩
        go_wp2_with fail
        refine (between_any _ _ _ D _ _ _ (hD.alloc _) hm).mono ?_
        rintro e w1 ⟨rfl, rfl⟩
        go_wp2
        go_ret
        exact ⟨ret_bool (by rw [trtB, h1, H4.out]; rfl), (Below.refl _ _).alloc (Nat.le_refl _) _⟩
      · have h4 : inB m 1 3 = false := inB_not.2 (by omega)
        have H4 : Hid _ := h4
        clear h4
        go_enter Try.func26, Try.ntmps26
        go_wp2_with fail
        refine (ival_any _ _ _ C _ (hC.alloc _) hn).mono ?_
        rintro e w1 ⟨rfl, rfl⟩
        go_wp2
        go_ret
        exact ⟨ret_bool (by rw [trtB, H4.out]; simp), (Below.refl _ _).alloc (Nat.le_refl _) _⟩
    · have h4 : inB m 1 3 = false := inB_not.2 (by omega)
      have H4 : Hid _ := h4
      clear h4
      go_enter Try.func26, Try.ntmps26
      go_wp2_with fail
      refine (ival_any _ _ _ C _ (hC.alloc _) hn).mono ?_
      rintro e w1 ⟨rfl, rfl⟩
      go_wp2
      go_ret
      exact ⟨ret_bool (by rw [trtB, H4.out]; simp), (Below.refl _ _).alloc (Nat.le_refl _) _⟩

/-- What the first k sites but one may. -/
def others (D : List Int) (s : Int) : Nat → Int
  | 0 => 0
  | k + 1 => if (k : Int) = s then others D s k else wrap64 (others D s k + D[k]?.getD 0)

set_option maxHeartbeats 800000 in
theorem sothers_any (a : Option Addr) (n cap : Nat) (c : Option Addr) (m cap' : Nat) (D : List Int) (s : Int) (w : World) (hD : Ints w c m D) (hm : m ≤ 1048576) :
    Calls Try.prog 75 #[treV a n cap c m cap', .int .i64 s] w fun e w' => e = .returned (.int .i64 (others D s m)) ∧ Below w.heap.size w w' := by
  go_enter Try.func75, Try.ntmps75
  go_wp2_with fail
  go_loop [5, 6] (fun x i => ∃ k : Nat, k ≤ m ∧ i = .int .i64 k ∧ x = .int .i64 (others D s k)) (fun _ i => m - (intOf i).toNat)
  case atStart => exact ⟨0, Nat.zero_le _, rfl, rfl⟩
  case round =>
    obtain ⟨k, hk, rfl, rfl⟩ := hrel
    by_cases hlt : k < m
    · obtain ⟨b, off, rfl, hcell⟩ := (hD.alloc (.cells #[.slice a n cap, .slice c m cap'] 45 (0, 0))).pos (by omega)
      have hck := hcell k hlt
      clear hcell hD
      have HO : Hid (others D s (k + 1) = if (k : Int) = s then others D s k else wrap64 (others D s k + D[k]?.getD 0)) := rfl
      obtain ⟨y, hy⟩ : ∃ y, y = others D s k := ⟨_, rfl⟩
      rw [← hy] at HO
      rw [← hy]
      clear hy
      by_cases hs : (k : Int) = s
      · have hs' : ((k : Int) != s) = false := by simp [hs]
        have HS : Hid ((k : Int) = s) := hs
        clear hs
        go_wp2
        go_round
        case rel => exact ⟨k + 1, by omega, by go_num, by rw [HO.out, if_pos HS.out]⟩
        case measure => simp [intOf]; omega
      · have hs' : ((k : Int) != s) = true := by simp [hs]
        have HS : Hid (¬ (k : Int) = s) := hs
        clear hs
        go_wp2
        go_round
        case rel => exact ⟨k + 1, by omega, by go_num, by rw [HO.out, if_neg HS.out]⟩
        case measure => simp [intOf]; omega
    · obtain rfl : k = m := by omega
      go_wp2
      go_ret
      exact ⟨rfl, (Below.refl _ _).alloc (Nat.le_refl _) _⟩

set_option maxHeartbeats 800000 in
theorem iothers_any (a : Option Addr) (n cap : Nat) (c : Option Addr) (m cap' : Nat) (D : List Int) (s : Int) (w : World) (hD : Ints w c m D) (hm : m ≤ 1048576) :
    Calls Try.prog 91 #[treV a n cap c m cap', .int .i64 s] w fun e w' => e = .returned (.int .i64 (others D s m)) ∧ Below w.heap.size w w' := by
  go_enter Try.func91, Try.ntmps91
  go_wp2_with fail
  go_loop [5, 6, 7, 11] (fun x _ _ i => ∃ k : Nat, k ≤ m ∧ i = .int .i64 k ∧ x = .int .i64 (others D s k)) (fun _ _ _ i => m - (intOf i).toNat)
  case atStart => exact ⟨0, Nat.zero_le _, rfl, rfl⟩
  case round =>
    obtain ⟨k, hk, rfl, rfl⟩ := hrel
    by_cases hlt : k < m
    · obtain ⟨b, off, rfl, hcell⟩ := (hD.alloc (.cells #[.slice a n cap, .slice c m cap'] 45 (0, 0))).pos (by omega)
      have hck := hcell k hlt
      clear hcell hD
      have HO : Hid (others D s (k + 1) = if (k : Int) = s then others D s k else wrap64 (others D s k + D[k]?.getD 0)) := rfl
      obtain ⟨y, hy⟩ : ∃ y, y = others D s k := ⟨_, rfl⟩
      rw [← hy] at HO
      rw [← hy]
      clear hy
      by_cases hs : (k : Int) = s
      · have hs' : ((k : Int) != s) = false := by simp [hs]
        have HS : Hid ((k : Int) = s) := hs
        clear hs
        go_wp2
        go_round
        case rel => exact ⟨k + 1, by omega, by go_num, by rw [HO.out, if_pos HS.out]⟩
        case measure => simp [intOf]; omega
      · have hs' : ((k : Int) != s) = true := by simp [hs]
        have HS : Hid (¬ (k : Int) = s) := hs
        clear hs
        go_wp2
        go_round
        case rel => exact ⟨k + 1, by omega, by go_num, by rw [HO.out, if_neg HS.out]⟩
        case measure => simp [intOf]; omega
    · obtain rfl : k = m := by omega
      go_wp2
      go_ret
      exact ⟨rfl, (Below.refl _ _).alloc (Nat.le_refl _) _⟩

/-- Parts are ok. -/
def partsB (ss : List IV) : Bool := ss.all fun s => okN 3 10000000 s.n s.x
theorem partsB_step {ss : List IV} {k : Nat} (h : k < ss.length) (h1 : partsB (ss.take k) = true) (h2 : okN 3 10000000 (ss[k]?.getD noI).n (ss[k]?.getD noI).x = true) : partsB (ss.take (k + 1)) = true := by
  unfold partsB at *
  rw [List.take_succ_eq_append_getElem h, List.all_append, h1]
  rw [List.getElem?_eq_getElem h] at h2
  simpa using h2
theorem partsB_end {ss : List IV} {k : Nat} (h : ss.length ≤ k) (h1 : partsB (ss.take k) = true) : partsB ss = true := by
  rwa [List.take_of_length_le h] at h1
theorem partsB_false {ss : List IV} {k : Nat} (h : k < ss.length) (hn : okN 3 10000000 (ss[k]?.getD noI).n (ss[k]?.getD noI).x = false) : partsB ss = false := by
  unfold partsB
  rw [List.all_eq_false]
  refine ⟨ss[k], List.getElem_mem h, ?_⟩
  rw [List.getElem?_eq_getElem h] at hn
  simpa using hn
theorem partsB_at {ss : List IV} {k : Nat} (h : k < ss.length) (hp : partsB ss = true) : okN 3 10000000 (ss[k]?.getD noI).n (ss[k]?.getD noI).x = true := by
  cases hn : okN 3 10000000 (ss[k]?.getD noI).n (ss[k]?.getD noI).x
  · rw [partsB_false h hn] at hp; cases hp
  · rfl

set_option maxHeartbeats 800000 in
theorem sparts_any (ad : Option Addr) (N cap : Nat) (ss : List IV) (w : World) (hN : ss.length = N) (hF : ISG w ad ss) (hN1 : N ≤ 1048576) :
    Calls Try.prog 61 #[.slice ad N cap] w fun e w' => e = .returned (.bool (partsB ss)) ∧ w' = w := by
  have HN : Hid (ss.length = N) := hN
  clear hN
  go_enter Try.func61, Try.ntmps61
  go_wp2_with fail
  go_loop [3] (fun i => ∃ k : Nat, k ≤ N ∧ i = .int .i64 k ∧ partsB (ss.take k) = true) (fun i => N - (intOf i).toNat)
  case atStart => exact ⟨0, Nat.zero_le _, rfl, rfl⟩
  case round =>
    obtain ⟨k, hk, rfl, hall⟩ := hrel
    have HA : Hid _ := hall
    clear hall
    by_cases hlt : k < N
    · obtain ⟨b, off, rfl, hc, hr⟩ := hF k (by rw [HN.out]; exact hlt)
      have H1 : Hid _ := partsB_step (ss := ss) (k := k) (by rw [HN.out]; exact hlt) HA.out
      have H2 : Hid _ := partsB_false (ss := ss) (k := k) (by rw [HN.out]; exact hlt)
      generalize HG : ss[k]?.getD noI = g at *
      clear HG hF HA
      obtain ⟨ga, gn, gcap, gx⟩ := g
      have hc' : w.cell? ⟨b, off + k, none⟩ = some (.slice ga gn gcap) := hc
      clear hc
      cases he : okN 3 10000000 gn gx
      · go_wp2_with fail
        refine (all_any _ _ _ gx _ _ _ hr.1 hr.2 (by omega) (by omega)).mono ?_
        rintro e w1 ⟨rfl, rfl⟩
        rw [he]
        go_wp2
        go_ret
        exact ⟨ret_bool (by rw [H2.out he]), rfl⟩
      · go_wp2_with fail
        refine (all_any _ _ _ gx _ _ _ hr.1 hr.2 (by omega) (by omega)).mono ?_
        rintro e w1 ⟨rfl, rfl⟩
        rw [he]
        go_wp2
        go_round
        case rel => exact ⟨k + 1, by omega, by go_num, H1.out he⟩
        case measure => simp [intOf]; omega
    · go_wp2
      go_ret
      exact ⟨ret_bool (by rw [partsB_end (by rw [HN.out]; omega) HA.out]), rfl⟩

set_option maxHeartbeats 800000 in
theorem iparts_any (ad : Option Addr) (N cap : Nat) (ss : List IV) (w : World) (hN : ss.length = N) (hF : ISG w ad ss) (hN1 : N ≤ 1048576) :
    Calls Try.prog 82 #[.slice ad N cap] w fun e w' => e = .returned (.bool (partsB ss)) ∧ w' = w := by
  have HN : Hid (ss.length = N) := hN
  clear hN
  go_enter Try.func82, Try.ntmps82
  go_wp2_with fail
  go_loop [4, 7] (fun _ i => ∃ k : Nat, k ≤ N ∧ i = .int .i64 k ∧ partsB (ss.take k) = true) (fun _ i => N - (intOf i).toNat)
  case atStart => exact ⟨0, Nat.zero_le _, rfl, rfl⟩
  case round =>
    obtain ⟨k, hk, rfl, hall⟩ := hrel
    have HA : Hid _ := hall
    clear hall
    by_cases hlt : k < N
    · obtain ⟨b, off, rfl, hc, hr⟩ := hF k (by rw [HN.out]; exact hlt)
      have H1 : Hid _ := partsB_step (ss := ss) (k := k) (by rw [HN.out]; exact hlt) HA.out
      have H2 : Hid _ := partsB_false (ss := ss) (k := k) (by rw [HN.out]; exact hlt)
      generalize HG : ss[k]?.getD noI = g at *
      clear HG hF HA
      obtain ⟨ga, gn, gcap, gx⟩ := g
      have hc' : w.cell? ⟨b, off + k, none⟩ = some (.slice ga gn gcap) := hc
      clear hc
      by_cases hn3 : (gn : Int) = 3
      · have hn3' : ((gn : Int) != 3) = false := by simp [hn3]
        have H3 : Hid ((gn : Int) = 3) := hn3
        clear hn3
        cases he : allB 10000000 gx
        · go_wp2_with fail
          refine (within_any _ _ _ gx _ _ hr.1 hr.2 (by omega) (by omega)).mono ?_
          rintro e w1 ⟨rfl, rfl⟩
          rw [he]
          go_wp2
          go_ret
          exact ⟨ret_bool (by rw [H2.out (by rw [okN_is H3.out, he])]), rfl⟩
        · go_wp2_with fail
          refine (within_any _ _ _ gx _ _ hr.1 hr.2 (by omega) (by omega)).mono ?_
          rintro e w1 ⟨rfl, rfl⟩
          rw [he]
          go_wp2
          go_round
          case rel => exact ⟨k + 1, by omega, by go_num, H1.out (by rw [okN_is H3.out, he])⟩
          case measure => simp [intOf]; omega
      · have hn3' : ((gn : Int) != 3) = true := by simp [hn3]
        have H3 : Hid (¬ (gn : Int) = 3) := hn3
        clear hn3
        go_wp2
        go_ret
        exact ⟨ret_bool (by rw [H2.out (okN_not H3.out)]), rfl⟩
    · go_wp2
      go_ret
      exact ⟨ret_bool (by rw [partsB_end (by rw [HN.out]; omega) HA.out]), rfl⟩

theorem imay_any (a : Option Addr) (n cap : Nat) (zs : List Int) (w : World) (h : Ints w a n zs) (hn : n ≤ 1048576) :
    Calls Try.prog 84 #[.slice a n cap] w fun e w' => e = .returned (.bool (okN 3 20000 n zs)) ∧ w' = w := by
  by_cases hc : (n : Int) = 3
  · have hc' : ((n : Int) == 3) = true := by simp [hc]
    have HC : Hid ((n : Int) = 3) := hc
    clear hc
    go_enter Try.func84, Try.ntmps84
    go_wp2_with fail
    refine (within_any _ _ _ zs _ _ h hn (by omega) (by omega)).mono ?_
    rintro e w' ⟨rfl, rfl⟩
    go_wp2
    go_ret
    exact ⟨ret_bool (by rw [okN_is HC.out]), rfl⟩
  · have hc' : ((n : Int) == 3) = false := by simpa using hc
    go_enter Try.func84, Try.ntmps84
    go_wp2
    go_ret
    exact ⟨ret_bool (by rw [okN_not hc]), rfl⟩

end Go.Proofs.Ytpnldfembbfgdaa
namespace Go.Proofs.Ytpnldfembbfgdaa
open Go.RowKit Go.Deep
set_option linter.unusedVariables false

set_option maxHeartbeats 800000 in
theorem times5_any (a c : Option Addr) (cap cap' : Nat) (xs ys : List Int) (P : Int) (w : World) (h : Ints w a 3 xs) (h' : Ints w c 3 ys) (hP : bndP P xs ys) (h0 : 0 ≤ P) (hb : P ≤ 1000000000000) :
    Calls Try.prog 64 #[.slice a 3 cap, .slice c 3 cap'] w fun e w' => e = .returned (.int .i64 (dot xs ys 3)) ∧ Below w.heap.size w w' := by
  have HP : Hid (bndP P xs ys) := hP
  clear hP
  go_enter Try.func64, Try.ntmps64
  go_wp2_with fail
  go_loopw [5, 6] (fun s i wr => ∃ k : Nat, k ≤ 3 ∧ i = .int .i64 k ∧ s = .int .i64 (dot xs ys k) ∧ Below w.heap.size w wr) (fun _ i _ => 3 - (intOf i).toNat)
  case atStart => exact ⟨0, by omega, rfl, rfl, Below.refl _ _⟩
  case round =>
    obtain ⟨k, hk, rfl, rfl, hb'⟩ := hrel
    by_cases hlt : k < 3
    · obtain ⟨b, off, rfl, hcell⟩ := (h.below hb').pos (by omega)
      obtain ⟨b', off', rfl, hcell'⟩ := (h'.below hb').pos (by omega)
      have hck := hcell k hlt
      have hck' := hcell' k hlt
      have hlt' : (k : Int) < 3 := by omega
      obtain ⟨p1, p2⟩ := HP.out k
      have d := dot_bnd HP.out k
      have kP : (k : Int) * P ≤ 1000 * P := Int.mul_le_mul_of_nonneg_right (by omega) h0
      have d1 : -1000000000000000 ≤ dot xs ys k := by omega
      have d2 : dot xs ys k ≤ 1000000000000000 := by omega
      have d3 : -1000000000000 ≤ xs[k]?.getD 0 * ys[k]?.getD 0 := by omega
      have d4 : xs[k]?.getD 0 * ys[k]?.getD 0 ≤ 1000000000000 := by omega
      clear hcell hcell' h h' d kP p1 p2 hb h0
      go_wp2_with fail
      go_quiet (fail)
      go_wp2
      go_roundw
      case rel => exact ⟨k + 1, by omega, by go_num, by simp only [dot], below_drewN hb' _⟩
      case measure => simp [intOf]; omega
    · obtain rfl : k = 3 := by omega
      go_wp2
      go_ret
      exact ⟨rfl, hb'⟩

/-- What a site knows is ok. -/
def viewB (n m : Nat) (C D : List Int) (ss : List IV) (s : Int) (k : Nat) (E : List Int) : Bool := trtB n m C D && (partsB ss && (inB s 0 ((m : Int) - 1) && okN 3 20000 k E))

/-- What is added keeps within what is given. -/
def keepsB (g : Int) (E : List Int) (ss : List IV) : Bool := ss.all fun p => inB (dot p.x E 3) (-g) g
theorem keepsB_step {g : Int} {E : List Int} {ss : List IV} {k : Nat} (h : k < ss.length) (h1 : keepsB g E (ss.take k) = true) (h2 : inB (dot (ss[k]?.getD noI).x E 3) (-g) g = true) : keepsB g E (ss.take (k + 1)) = true := by
  unfold keepsB at *
  rw [List.take_succ_eq_append_getElem h, List.all_append, h1]
  rw [List.getElem?_eq_getElem h] at h2
  simpa using h2
theorem keepsB_end {g : Int} {E : List Int} {ss : List IV} {k : Nat} (h : ss.length ≤ k) (h1 : keepsB g E (ss.take k) = true) : keepsB g E ss = true := by
  rwa [List.take_of_length_le h] at h1
theorem keepsB_false {g : Int} {E : List Int} {ss : List IV} {k : Nat} (h : k < ss.length) (hn : inB (dot (ss[k]?.getD noI).x E 3) (-g) g = false) : keepsB g E ss = false := by
  unfold keepsB
  rw [List.all_eq_false]
  refine ⟨ss[k], List.getElem_mem h, ?_⟩
  rw [List.getElem?_eq_getElem h] at hn
  simpa using hn

theorem viewB_elim {n m : Nat} {C D : List Int} {ss : List IV} {s : Int} {k : Nat} {E : List Int} (h : viewB n m C D ss s k E = true) :
    n = 3 ∧ bnd 10000 C ∧ 1 ≤ m ∧ m ≤ 3 ∧ partsB ss = true ∧ 0 ≤ s ∧ s < m ∧ k = 3 ∧ bnd 20000 E ∧ (∀ i : Nat, i < D.length → 0 ≤ D[i]?.getD 0 ∧ D[i]?.getD 0 ≤ 50) := by
  simp only [viewB, trtB, Bool.and_eq_true] at h
  obtain ⟨⟨h1, h2, h3⟩, h4, h5, h6⟩ := h
  have a := okN_elim (by omega) h1
  have b := okN_elim (by omega) h6
  have c := inB_iff.1 h2
  have d := inB_iff.1 h5
  refine ⟨by omega, a.2, by omega, by omega, h4, d.1, by omega, by omega, b.2, fun i hi => ?_⟩
  unfold betB at h3
  rw [List.all_eq_true] at h3
  have := inB_iff.1 (h3 D[i] (List.getElem_mem hi))
  rw [List.getElem?_eq_getElem hi]
  simpa using this

/-- Whether what a site has added keeps within a treaty. -/
def keepB (n m : Nat) (C D : List Int) (ss : List IV) (s : Int) (k : Nat) (E : List Int) : Bool := viewB n m C D ss s k E && keepsB (D[s.toNat]?.getD 0) E ss

theorem place_in (s : Int) (m : Nat) : decide (0 ≤ s ∧ s < (m : Int)) = inB s 0 ((m : Int) - 1) := by
  unfold inB
  apply decide_eq_decide.2
  omega

/-- What a site knows, as a value. -/
abbrev viewV (a : Option Addr) (n cap : Nat) (c : Option Addr) (m cap' : Nat) (ad : Option Addr) (N pc : Nat) (s : Int) (e : Option Addr) (k ec : Nat) (u : Option Addr) (l uc : Nat) : Value := .agg #[.slice a n cap, .slice c m cap', .slice ad N pc, .int .i64 s, .slice e k ec, .slice u l uc]

theorem Cel.sixK {w : World} {B : Nat} {v0 v1 v2 v3 v4 v5 : Value} {t : TypeId} (h : Cel w B [v0, v1, v2, v3, v4, v5] t) : w.cell? ⟨B, 0, none⟩ = some v0 ∧ w.cell? ⟨B, 1, none⟩ = some v1 ∧ w.cell? ⟨B, 2, none⟩ = some v2 ∧ w.cell? ⟨B, 3, none⟩ = some v3 ∧ w.cell? ⟨B, 4, none⟩ = some v4 ∧ w.cell? ⟨B, 5, none⟩ = some v5 := ⟨h.cell 0, h.cell 1, h.cell 2, h.cell 3, h.cell 4, h.cell 5⟩

set_option maxHeartbeats 1600000 in
theorem vok_any (a : Option Addr) (n cap : Nat) (c : Option Addr) (m cap' : Nat) (ad : Option Addr) (N pc : Nat) (s : Int) (e : Option Addr) (k ec : Nat) (u : Option Addr) (l uc : Nat) (C D E : List Int) (ss : List IV) (w : World)
    (hC : Ints w a n C) (hD : Ints w c m D) (hE : Ints w e k E) (hN : ss.length = N) (hF : ISG w ad ss) (hn : n ≤ 1048576) (hm : m ≤ 1048576) (hk : k ≤ 1048576) (hN1 : N ≤ 1048576) :
    Calls Try.prog 59 #[viewV a n cap c m cap' ad N pc s e k ec u l uc] w fun r w' => r = .returned (.bool (viewB n m C D ss s k E)) ∧ Below w.heap.size w w' := by
  have HN : Hid (ss.length = N) := hN
  clear hN
  have q0 := Cel.new w [.slice a n cap, .slice c m cap', .slice ad N pc, .int .i64 s, .slice e k ec, .slice u l uc] 81
  have b0 := (Below.refl w.heap.size w).alloc (Nat.le_refl _) (.cells #[.slice a n cap, .slice c m cap', .slice ad N pc, .int .i64 s, .slice e k ec, .slice u l uc] 81)
  cases h1 : trtB n m C D
  · go_enter Try.func59, Try.ntmps59
    go_wp2_with fail
    refine (itrt_any _ _ _ _ _ _ C D _ (hC.below b0) (hD.below b0) hn hm).mono ?_
    rintro r w1 ⟨rfl, b1⟩
    have B1 := b0.trans (b1.mono b0.size)
    rw [h1]
    go_wp2
    go_ret
    exact ⟨ret_bool (by simp [viewB, h1]), B1⟩
  · cases h2 : partsB ss
    · go_enter Try.func59, Try.ntmps59
      go_wp2_with fail
      refine (itrt_any _ _ _ _ _ _ C D _ (hC.below b0) (hD.below b0) hn hm).mono ?_
      rintro r w1 ⟨rfl, b1⟩
      have B1 := b0.trans (b1.mono b0.size)
      obtain ⟨c0, c1, c2, c3, c4, c5⟩ := (q0.below b1).sixK
      rw [h1]
      go_wp2_with fail
      refine (iparts_any _ _ _ ss _ HN.out (hF.below B1) hN1).mono ?_
      rintro r w2 ⟨rfl, rfl⟩
      rw [h2]
      go_wp2
      go_ret
      exact ⟨ret_bool (by simp [viewB, h2]), B1⟩
    · cases h3 : inB s 0 ((m : Int) - 1)
      · go_enter Try.func59, Try.ntmps59
        go_wp2_with fail
        refine (itrt_any _ _ _ _ _ _ C D _ (hC.below b0) (hD.below b0) hn hm).mono ?_
        rintro r w1 ⟨rfl, b1⟩
        have B1 := b0.trans (b1.mono b0.size)
        obtain ⟨c0, c1, c2, c3, c4, c5⟩ := (q0.below b1).sixK
        rw [h1]
        go_wp2_with fail
        refine (iparts_any _ _ _ ss _ HN.out (hF.below B1) hN1).mono ?_
        rintro r w2 ⟨rfl, rfl⟩
        rw [h2]
        go_wp2_with fail
        refine (place_any _ _ _).mono ?_
        rintro r w3 ⟨rfl, rfl⟩
        rw [place_in, h3]
        go_wp2
        go_ret
        exact ⟨ret_bool (by simp [viewB, h3]), B1⟩
      · go_enter Try.func59, Try.ntmps59
        go_wp2_with fail
        refine (itrt_any _ _ _ _ _ _ C D _ (hC.below b0) (hD.below b0) hn hm).mono ?_
        rintro r w1 ⟨rfl, b1⟩
        have B1 := b0.trans (b1.mono b0.size)
        obtain ⟨c0, c1, c2, c3, c4, c5⟩ := (q0.below b1).sixK
        rw [h1]
        go_wp2_with fail
        refine (iparts_any _ _ _ ss _ HN.out (hF.below B1) hN1).mono ?_
        rintro r w2 ⟨rfl, rfl⟩
        rw [h2]
        go_wp2_with fail
        refine (place_any _ _ _).mono ?_
        rintro r w3 ⟨rfl, rfl⟩
        rw [place_in, h3]
        go_wp2_with fail
        refine (imay_any _ _ _ E _ (hE.below B1) hk).mono ?_
        rintro r w4 ⟨rfl, rfl⟩
        go_wp2
        go_ret
        exact ⟨ret_bool (by simp [viewB, h1, h2, h3]), B1⟩

set_option maxHeartbeats 1600000 in
theorem vkeeps_any (a : Option Addr) (n cap : Nat) (c : Option Addr) (m cap' : Nat) (ad : Option Addr) (N pc : Nat) (s : Int) (e : Option Addr) (ec : Nat) (u : Option Addr) (l uc : Nat) (C D E : List Int) (ss : List IV) (w : World)
    (hD : Ints w c m D) (hE : Ints w e 3 E) (hN : ss.length = N) (hF : ISG w ad ss) (hN1 : N ≤ 1048576) (hm3 : m ≤ 3) (hs : 0 ≤ s) (hs' : s < m) (hp : partsB ss = true) (bE : bnd 20000 E) (bD : ∀ i : Nat, i < D.length → 0 ≤ D[i]?.getD 0 ∧ D[i]?.getD 0 ≤ 50) :
    Calls Try.prog 60 #[viewV a n cap c m cap' ad N pc s e 3 ec u l uc] w fun r w' => r = .returned (.bool (keepsB (D[s.toNat]?.getD 0) E ss)) ∧ Below w.heap.size w w' := by
  have HN : Hid (ss.length = N) := hN
  have HP : Hid (partsB ss = true) := hp
  clear hN hp
  have q0 := Cel.new w [.slice a n cap, .slice c m cap', .slice ad N pc, .int .i64 s, .slice e 3 ec, .slice u l uc] 81
  have b0 := (Below.refl w.heap.size w).alloc (Nat.le_refl _) (.cells #[.slice a n cap, .slice c m cap', .slice ad N pc, .int .i64 s, .slice e 3 ec, .slice u l uc] 81)
  obtain ⟨t, rfl⟩ : ∃ t : Nat, s = t := ⟨s.toNat, by omega⟩
  have ht : t < m := by omega
  have bg := bD t (by rw [hD.1]; exact ht)
  obtain ⟨b, off, rfl, hcell⟩ := (hD.below b0).pos (by omega)
  have hck := hcell t ht
  rw [Int.toNat_natCast]
  have hck' : (w.alloc (.cells #[.slice a n cap, .slice (some ⟨b, off, none⟩) m cap', .slice ad N pc, .int .i64 (t : Int), .slice e 3 ec, .slice u l uc] 81)).cell? ⟨b, off + t, none⟩ = some (.int .i64 (D[t]?.getD 0)) := by rw [hck]; simp
  generalize HG : D[t]?.getD 0 = g at *
  clear HG hck hcell bD hD
  go_enter Try.func60, Try.ntmps60
  go_wp2_with fail
  go_loopw [5, 16] (fun _ i wr => ∃ k : Nat, k ≤ N ∧ i = .int .i64 k ∧ Below w.heap.size w wr ∧ Cel wr w.heap.size [.slice a n cap, .slice (some ⟨b, off, none⟩) m cap', .slice ad N pc, .int .i64 (t : Int), .slice e 3 ec, .slice u l uc] 81 ∧ keepsB g E (ss.take k) = true) (fun _ i _ => N - (intOf i).toNat)
  case atStart => exact ⟨0, Nat.zero_le _, rfl, b0, q0, rfl⟩
  case round =>
    clear hck' q0 b0
    obtain ⟨k, hk, rfl, hb, q1, hall⟩ := hrel
    have HA : Hid _ := hall
    clear hall
    by_cases hlt : k < N
    · obtain ⟨b2, off2, rfl, hc, hr⟩ := (hF.below hb) k (by rw [HN.out]; exact hlt)
      have H1 : Hid _ := keepsB_step (g := g) (E := E) (ss := ss) (k := k) (by rw [HN.out]; exact hlt) HA.out
      have H2 : Hid _ := keepsB_false (g := g) (E := E) (ss := ss) (k := k) (by rw [HN.out]; exact hlt)
      have H3 := partsB_at (ss := ss) (k := k) (by rw [HN.out]; exact hlt) HP.out
      generalize HG : ss[k]?.getD noI = p at *
      clear HG hF HA
      obtain ⟨ga, gn, gcap, gx⟩ := p
      obtain ⟨e3, bx⟩ := okN_elim (by omega) H3
      obtain rfl : gn = 3 := by have : (gn : Int) = 3 := e3; omega
      have hP := bndP_of bx bE (by omega) (by omega)
      have hc' : wr.cell? ⟨b2, off2 + k, none⟩ = some (.slice ga 3 gcap) := hc
      have c4 := q1.cell 4
      simp only [List.getElem?_cons_zero, List.getElem?_cons_succ] at c4
      have hr1 : Ints wr ga 3 gx := hr.1
      clear hc H3 e3
      have dn := dot_bnd hP 3
      go_wp2_with fail
      refine (psum_any _ _ _ _ _ gx E _ _ hr1 (hE.below hb) (by omega) hP (by omega) (by omega)).mono ?_
      rintro r w1 ⟨rfl, rfl⟩
      have H1' : Hid (inB (dot gx E 3) (-g) g = true → keepsB g E (ss.take (k + 1)) = true) := H1
      have H2' : Hid (inB (dot gx E 3) (-g) g = false → keepsB g E ss = false) := H2
      generalize HG : dot gx E 3 = x at *
      clear HG H1 H2 hP dn
      go_wp2_with fail
      refine (within_any (some ⟨w1.heap.size, 0, none⟩) 1 1 [x] _ _ ?_ (by omega) (by omega) (by omega)).mono ?_
      · refine ⟨rfl, fun i hi => ⟨w1.heap.size, 0, rfl, ?_⟩⟩
        obtain rfl : i = 0 := by omega
        simp [go_sem]
      rintro r w2 ⟨rfl, rfl⟩
      rw [allB_one]
      cases he : inB x (-g) g
      · go_wp2
        go_ret
        exact ⟨ret_bool (by rw [H2'.out he]), hb.alloc hb.size _⟩
      · go_wp2
        go_roundw
        case rel => exact ⟨k + 1, by omega, by go_num, hb.alloc hb.size _, q1.alloc _, H1'.out he⟩
        case measure => simp [intOf]; omega
    · go_wp2
      go_ret
      exact ⟨ret_bool (by rw [keepsB_end (by rw [HN.out]; omega) HA.out]), hb⟩

set_option maxHeartbeats 1600000 in
theorem ikeep_any (a : Option Addr) (n cap : Nat) (c : Option Addr) (m cap' : Nat) (ad : Option Addr) (N pc : Nat) (s : Int) (e : Option Addr) (k ec : Nat) (C D E : List Int) (ss : List IV) (w : World)
    (hC : Ints w a n C) (hD : Ints w c m D) (hE : Ints w e k E) (hN : ss.length = N) (hF : ISG w ad ss) (hn : n ≤ 1048576) (hm : m ≤ 1048576) (hk : k ≤ 1048576) (hN1 : N ≤ 1048576) :
    Calls Try.prog 24 #[treV a n cap c m cap', .slice ad N pc, .int .i64 s, .slice e k ec] w fun r w' => r = .returned (.bool (keepB n m C D ss s k E)) ∧ Below w.heap.size w w' := by
  have HN : Hid (ss.length = N) := hN
  clear hN
  have B0 : Below w.heap.size w ((w.alloc (.cells #[.slice a n cap, .slice c m cap'] 45)).alloc (.cells #[.slice a n cap, .slice c m cap', .slice ad N pc, .int .i64 s, .slice e k ec, .slice none 0 0] 81)) := ((Below.refl w.heap.size w).alloc (Nat.le_refl _) _).alloc (by simp) _
  have q0 := Cel.new (w.alloc (.cells #[.slice a n cap, .slice c m cap'] 45)) [.slice a n cap, .slice c m cap', .slice ad N pc, .int .i64 s, .slice e k ec, .slice none 0 0] 81
  rw [World.size_alloc] at q0
  cases h1 : viewB n m C D ss s k E
  · go_enter Try.func24, Try.ntmps24
    go_wp2_with fail
    refine (vok_any _ _ _ _ _ _ _ _ _ _ _ _ _ _ _ _ C D E ss _ (hC.below B0) (hD.below B0) (hE.below B0) HN.out (hF.below B0) hn hm hk hN1).mono ?_
    rintro r w1 ⟨rfl, b1⟩
    have B1 := B0.trans (b1.mono B0.size)
    rw [h1]
    go_wp2
    go_ret
    exact ⟨ret_bool (by simp [keepB, h1]), B1⟩
  · obtain ⟨-, -, m1, m2, hp0, s0, s1, e2, bE, bD⟩ := viewB_elim h1
    have hp : Hid _ := hp0
    clear hp0
    subst e2
    go_enter Try.func24, Try.ntmps24
    go_wp2_with fail
    refine (vok_any _ _ _ _ _ _ _ _ _ _ _ _ _ _ _ _ C D E ss _ (hC.below B0) (hD.below B0) (hE.below B0) HN.out (hF.below B0) hn hm hk hN1).mono ?_
    rintro r w1 ⟨rfl, b1⟩
    have B1 := B0.trans (b1.mono B0.size)
    obtain ⟨c0, c1, c2, c3, c4, c5⟩ := (q0.below b1).sixK
    rw [h1]
    have HK : Hid _ := h1
    clear h1
    go_wp2_with fail
    refine (vkeeps_any _ _ _ _ _ _ _ _ _ _ _ _ _ _ _ C D E ss _ (hD.below B1) (hE.below B1) HN.out (hF.below B1) hN1 m2 s0 s1 hp.out bE bD).mono ?_
    rintro r w2 ⟨rfl, b2⟩
    have B2 := B1.trans (b2.mono B1.size)
    go_wp2
    go_ret
    exact ⟨ret_bool (by rw [keepB, HK.out]; rfl), B2⟩

end Go.Proofs.Ytpnldfembbfgdaa
namespace Go.Proofs.Ytpnldfembbfgdaa
open Go.RowKit Go.Deep
set_option linter.unusedVariables false

set_option maxHeartbeats 3200000 in
theorem skeep_any (a : Option Addr) (n cap : Nat) (c : Option Addr) (m cap' : Nat) (ad : Option Addr) (N pc : Nat) (s : Int) (e : Option Addr) (k ec : Nat) (C D E : List Int) (ss : List IV) (w : World)
    (hC : Ints w a n C) (hD : Ints w c m D) (hE : Ints w e k E) (hN : ss.length = N) (hF : ISG w ad ss) (hn : n ≤ 1048576) (hm : m ≤ 1048576) (hk : k ≤ 1048576) (hN1 : N ≤ 1048576) :
    Calls Try.prog 25 #[treV a n cap c m cap', .slice ad N pc, .int .i64 s, .slice e k ec] w fun r w' => r = .returned (.bool (keepB n m C D ss s k E)) ∧ Below w.heap.size w w' := by
  have HN : Hid (ss.length = N) := hN
  clear hN
  have b0 := (Below.refl w.heap.size w).alloc (Nat.le_refl _) (.cells #[.slice a n cap, .slice c m cap'] 45)
  have q0 := Cel.new w [.slice a n cap, .slice c m cap'] 45
  cases h1 : trtB n m C D
  · go_enter Try.func25, Try.ntmps25
    go_wp2_with fail
    refine (strt_any _ _ _ _ _ _ C D _ (hC.below b0) (hD.below b0) hn hm).mono ?_
    rintro r w1 ⟨rfl, b1⟩
    have B1 := b0.trans (b1.mono b0.size)
    rw [h1]
    go_wp2
    go_ret
    exact ⟨ret_bool (by simp [keepB, viewB, h1]), B1⟩
  cases h2 : partsB ss
  · go_enter Try.func25, Try.ntmps25
    go_wp2_with fail
    refine (strt_any _ _ _ _ _ _ C D _ (hC.below b0) (hD.below b0) hn hm).mono ?_
    rintro r w1 ⟨rfl, b1⟩
    have B1 := b0.trans (b1.mono b0.size)
    rw [h1]
    go_wp2_with fail
    refine (sparts_any _ _ _ ss _ HN.out (hF.below B1) hN1).mono ?_
    rintro r w2 ⟨rfl, rfl⟩
    rw [h2]
    go_wp2
    go_ret
    exact ⟨ret_bool (by simp [keepB, viewB, h2]), B1⟩
  cases h3 : inB s 0 ((m : Int) - 1)
  · go_enter Try.func25, Try.ntmps25
    go_wp2_with fail
    refine (strt_any _ _ _ _ _ _ C D _ (hC.below b0) (hD.below b0) hn hm).mono ?_
    rintro r w1 ⟨rfl, b1⟩
    have B1 := b0.trans (b1.mono b0.size)
    have c1 := (q0.below b1).cell 1
    simp only [List.getElem?_cons_zero, List.getElem?_cons_succ] at c1
    rw [h1]
    go_wp2_with fail
    refine (sparts_any _ _ _ ss _ HN.out (hF.below B1) hN1).mono ?_
    rintro r w2 ⟨rfl, rfl⟩
    rw [h2]
    go_wp2_with fail
    refine (in_any _ _ _ _).mono ?_
    rintro r w3 ⟨rfl, rfl⟩
    rw [h3]
    go_wp2
    go_ret
    exact ⟨ret_bool (by simp [keepB, viewB, h3]), B1⟩
  cases h4 : okN 3 20000 k E
  · go_enter Try.func25, Try.ntmps25
    go_wp2_with fail
    refine (strt_any _ _ _ _ _ _ C D _ (hC.below b0) (hD.below b0) hn hm).mono ?_
    rintro r w1 ⟨rfl, b1⟩
    have B1 := b0.trans (b1.mono b0.size)
    have c1 := (q0.below b1).cell 1
    simp only [List.getElem?_cons_zero, List.getElem?_cons_succ] at c1
    rw [h1]
    go_wp2_with fail
    refine (sparts_any _ _ _ ss _ HN.out (hF.below B1) hN1).mono ?_
    rintro r w2 ⟨rfl, rfl⟩
    rw [h2]
    go_wp2_with fail
    refine (in_any _ _ _ _).mono ?_
    rintro r w3 ⟨rfl, rfl⟩
    rw [h3]
    go_wp2_with fail
    refine (all_any _ _ _ E _ _ _ (hE.below B1) hk (by omega) (by omega)).mono ?_
    rintro r w4 ⟨rfl, rfl⟩
    rw [h4]
    go_wp2
    go_ret
    exact ⟨ret_bool (by simp [keepB, viewB, h4]), B1⟩
  have hv : viewB n m C D ss s k E = true := by simp [viewB, h1, h2, h3, h4]
  obtain ⟨-, -, m1, m2, hp0, s0, s1, e2, bE, bD⟩ := viewB_elim hv
  have HP : Hid _ := hp0
  have HV : Hid _ := hv
  have H1 : Hid _ := h1
  have H2 : Hid _ := h2
  have H3 : Hid _ := h3
  have H4 : Hid _ := h4
  clear hp0 hv h1 h2 h3 h4
  subst e2
  obtain ⟨t, rfl⟩ : ∃ t : Nat, s = t := ⟨s.toNat, by omega⟩
  have ht : t < m := by omega
  have bg := bD t (by rw [hD.1]; exact ht)
  obtain ⟨b, off, rfl, hcell⟩ := hD.pos (by omega)
  have hck := hcell t ht
  have hck' : w.cell? ⟨b, off + t, none⟩ = some (.int .i64 (D[t]?.getD 0)) := by rw [hck]; simp
  have hkb : keepB n m C D ss t 3 E = keepsB (D[t]?.getD 0) E ss := by rw [keepB, HV.out]; simp
  rw [hkb]
  clear hkb
  generalize HG : D[t]?.getD 0 = g at *
  clear HG hck hcell bD
  have ht' : (t : Int) < (m : Int) := by omega
  go_enter Try.func25, Try.ntmps25
  go_wp2_with fail
  refine (strt_any _ _ _ _ _ _ C D _ (hC.below b0) (hD.below b0) hn hm).mono ?_
  rintro r w1 ⟨rfl, b1⟩
  have B1 := b0.trans (b1.mono b0.size)
  have q1 := q0.below b1
  have c1 := q1.cell 1
  simp only [List.getElem?_cons_zero, List.getElem?_cons_succ] at c1
  rw [H1.out]
  go_wp2_with fail
  refine (sparts_any _ _ _ ss _ HN.out (hF.below B1) hN1).mono ?_
  rintro r w2 ⟨rfl, rfl⟩
  rw [H2.out]
  go_wp2_with fail
  refine (in_any _ _ _ _).mono ?_
  rintro r w3 ⟨rfl, rfl⟩
  rw [H3.out]
  go_wp2_with fail
  refine (all_any _ _ _ E _ _ _ (hE.below B1) hk (by omega) (by omega)).mono ?_
  rintro r w4 ⟨rfl, rfl⟩
  rw [H4.out]
  have dk : w4.cell? ⟨b, off + t, none⟩ = some (.int .i64 g) := by rw [B1.cell (p := ⟨b, off + t, none⟩) (block_lt hck')]; exact hck'
  clear c1 b1 b0 q0 hC hD
  go_wp2_with fail
  go_loopw [9] (fun i wr => ∃ k : Nat, k ≤ N ∧ i = .int .i64 k ∧ Below w.heap.size w wr ∧ Cel wr w.heap.size [.slice a n cap, .slice (some ⟨b, off, none⟩) m cap'] 45 ∧ keepsB g E (ss.take k) = true) (fun i _ => N - (intOf i).toNat)
  case atStart => exact ⟨0, Nat.zero_le _, rfl, B1, q1, rfl⟩
  case round =>
    clear dk B1 q1
    obtain ⟨j, hj, rfl, hb, q1, hall⟩ := hrel
    have HA : Hid _ := hall
    clear hall
    by_cases hlt : j < N
    · obtain ⟨b2, off2, rfl, hc, hr⟩ := (hF.below hb) j (by rw [HN.out]; exact hlt)
      have H1 : Hid _ := keepsB_step (g := g) (E := E) (ss := ss) (k := j) (by rw [HN.out]; exact hlt) HA.out
      have H2 : Hid _ := keepsB_false (g := g) (E := E) (ss := ss) (k := j) (by rw [HN.out]; exact hlt)
      have H3 := partsB_at (ss := ss) (k := j) (by rw [HN.out]; exact hlt) HP.out
      have dk : wr.cell? ⟨b, off + t, none⟩ = some (.int .i64 g) := by rw [hb.cell (p := ⟨b, off + t, none⟩) (block_lt hck')]; exact hck'
      generalize HG : ss[j]?.getD noI = p at *
      clear HG hF HA
      obtain ⟨ga, gn, gcap, gx⟩ := p
      obtain ⟨e3, bx⟩ := okN_elim (by omega) H3
      obtain rfl : gn = 3 := by have : (gn : Int) = 3 := e3; omega
      have hP := bndP_of bx bE (by omega) (by omega)
      have hr1 : Ints wr ga 3 gx := hr.1
      have hE1 := hE.below hb
      have hc' : wr.cell? ⟨b2, off2 + j, none⟩ = some (.slice ga 3 gcap) := hc
      have H1' : Hid (inB (dot gx E 3) (-g) g = true → keepsB g E (ss.take (j + 1)) = true) := H1
      have H2' : Hid (inB (dot gx E 3) (-g) g = false → keepsB g E ss = false) := H2
      clear hc H3 e3 hr H1 H2 hck' hE
      have hlt' : (j : Int) < (N : Int) := by omega
      go_upto_region 6 with fail
      have hn0 : wr.cell? ⟨w.heap.size, 1, none⟩ = some (.slice (some ⟨b, off, none⟩) m cap') ∧ wr.cell? ⟨b, off + t, none⟩ = some (.int .i64 g) ∧ wr.cell? ⟨b2, off2 + j, none⟩ = some (.slice ga 3 gcap) := ⟨q1.cell 1, dk, hc'⟩
      go_region_held3 (fun w' => w'.cell? ⟨w.heap.size, 1, none⟩ = some (.slice (some ⟨b, off, none⟩) m cap') ∧ w'.cell? ⟨b, off + t, none⟩ = some (.int .i64 g) ∧ w'.cell? ⟨b2, off2 + j, none⟩ = some (.slice ga 3 gcap)) (first | with_reducible assumption | exact hn0)
        (first
          | (go_at_call 64
             refine (times5_any _ _ _ _ gx E _ _ (by exact hr1.below (Below.refl _ _).drew) (by exact hE1.below (Below.refl _ _).drew) hP (by omega) (by omega)).mono ?_
             rintro ee w3 ⟨rfl, b3⟩
             have b3' := below_of_drew b3
             have q3 := q1.below b3'
             have d3 := (b3'.cell (p := ⟨b, off + t, none⟩) (block_lt dk)).trans dk
             have e3 := (b3'.cell (p := ⟨b2, off2 + j, none⟩) (block_lt hc')).trans hc'
             have hn3 : w3.cell? ⟨w.heap.size, 1, none⟩ = some (.slice (some ⟨b, off, none⟩) m cap') ∧ w3.cell? ⟨b, off + t, none⟩ = some (.int .i64 g) ∧ w3.cell? ⟨b2, off2 + j, none⟩ = some (.slice ga 3 gcap) := ⟨q3.cell 1, d3, e3⟩)
          | (go_at_call 62
             refine (in_any _ _ _ _).mono ?_
             rintro ee w4 ⟨rfl, rfl⟩))
      have hb2 := hb.trans (b3'.mono hb.size)
      have hw : IntKind.i64.wrap (-g) = -g := wrap_id (by omega) (by omega)
      rw [hw]
      cases he : inB (dot gx E 3) (-g) g
      · go_wp2
        go_ret
        exact ⟨ret_bool (by rw [H2'.out he]), hb2⟩
      · go_wp2
        go_roundw
        case rel => exact ⟨j + 1, by omega, by go_num, hb2, q3, H1'.out he⟩
        case measure => simp [intOf]; omega
    · go_wp2
      go_ret
      exact ⟨ret_bool (by rw [keepsB_end (by rw [HN.out]; omega) HA.out]), hb⟩

/-- What hangs on what is held alone is the same of a copy. -/
theorem copies_pair {ss ts : List IV} (hl : ts.length = ss.length) (h : copiesIS ss ts) : ts.map (fun p => (p.n, p.x)) = ss.map (fun p => (p.n, p.x)) := by
  apply List.ext_getElem?
  intro i
  by_cases hi : i < ts.length
  · have h0 := h i hi
    have h1 := h0.1
    have h2 := h0.2
    rw [List.getElem?_eq_getElem hi, List.getElem?_eq_getElem (by omega)] at h1 h2
    simp only [Option.getD_some] at h1 h2
    rw [List.getElem?_map, List.getElem?_map, List.getElem?_eq_getElem hi, List.getElem?_eq_getElem (by omega)]
    simp [h1, h2]
  · rw [List.getElem?_eq_none (by simp; omega), List.getElem?_eq_none (by simp; omega)]
theorem partsB_copy {ss ts : List IV} (hl : ts.length = ss.length) (h : copiesIS ss ts) : partsB ts = partsB ss := by
  have e : ∀ l : List IV, partsB l = (l.map (fun p => (p.n, p.x))).all fun q => okN 3 10000000 q.1 q.2 := fun l => by rw [List.all_map]; rfl
  rw [e, e, copies_pair hl h]
theorem keepsB_copy {g : Int} {E : List Int} {ss ts : List IV} (hl : ts.length = ss.length) (h : copiesIS ss ts) : keepsB g E ts = keepsB g E ss := by
  have e : ∀ l : List IV, keepsB g E l = (l.map (fun p => (p.n, p.x))).all fun q => inB (dot q.2 E 3) (-g) g := fun l => by rw [List.all_map]; rfl
  rw [e, e, copies_pair hl h]
theorem viewB_copy {n m : Nat} {C D : List Int} {ss ts : List IV} {s : Int} {k : Nat} {E : List Int} (hl : ts.length = ss.length) (h : copiesIS ss ts) : viewB n m C D ts s k E = viewB n m C D ss s k E := by
  rw [viewB, viewB, partsB_copy hl h]
theorem keepB_copy {n m : Nat} {C D : List Int} {ss ts : List IV} {s : Int} {k : Nat} {E : List Int} (hl : ts.length = ss.length) (h : copiesIS ss ts) : keepB n m C D ts s k E = keepB n m C D ss s k E := by
  rw [keepB, keepB, viewB_copy hl h, keepsB_copy hl h]
theorem copies_sameI {ss ts us : List IV} {N : Nat} (h1 : ts.length = N) (h2 : us.length = N) (c1 : copiesIS ss ts) (c2 : copiesIS ss us) : ∀ i, i < N → sameI (ts[i]?.getD noI) (us[i]?.getD noI) := fun i hi => by
  have a := (c1 i (by omega)).2
  have b := (c2 i (by omega)).2
  show _ = _
  rw [a, b]
theorem Cel.two {w : World} {B : Nat} {v0 v1 : Value} {t : TypeId} (h : Cel w B [v0, v1] t) : w.cell? ⟨B, 0, none⟩ = some v0 ∧ w.cell? ⟨B, 1, none⟩ = some v1 := ⟨h.cell 0, h.cell 1⟩
theorem Cel.three {w : World} {B : Nat} {v0 v1 v2 : Value} {t : TypeId} (h : Cel w B [v0, v1, v2] t) : w.cell? ⟨B, 0, none⟩ = some v0 ∧ w.cell? ⟨B, 1, none⟩ = some v1 ∧ w.cell? ⟨B, 2, none⟩ = some v2 := ⟨h.cell 0, h.cell 1, h.cell 2⟩

end Go.Proofs.Ytpnldfembbfgdaa
namespace Go.Proofs.Ytpnldfembbfgdaa
open Go.RowKit
set_option linter.unusedVariables false

theorem zip_take {xs ys : List Int} {k : Nat} (hx : k < xs.length) (hy : k < ys.length) : (List.zipWith (· + ·) xs ys).take (k + 1) = (List.zipWith (· + ·) xs ys).take k ++ [xs[k]?.getD 0 + ys[k]?.getD 0] := by
  have hl : k < (List.zipWith (· + ·) xs ys).length := by rw [List.length_zipWith]; omega
  rw [List.take_succ_eq_append_getElem hl, List.getElem_zipWith, List.getElem?_eq_getElem hx, List.getElem?_eq_getElem hy]
  rfl

set_option maxHeartbeats 1600000 in
theorem sum5_any (a c : Option Addr) (cap cap' : Nat) (xs ys : List Int) (w : World) (h : Ints w a 3 xs) (h' : Ints w c 3 ys) (hM : bnd 1000000000 xs) (hM' : bnd 1000000000 ys) :
    Calls Try.prog 70 #[.slice a 3 cap, .slice c 3 cap'] w fun e w' => ∃ v, e = .returned v ∧ JA w v (List.zipWith (· + ·) xs ys) w' := by
  have HX : Hid (xs.length = 3) := h.1
  have HY : Hid (ys.length = 3) := h'.1
  obtain ⟨i0, hi, hz0, hz1, hz2⟩ := info_parts Try.infoInt
  go_enter Try.func70, Try.ntmps70
  go_wp2_with fail
  go_loopw [5, 6] (fun v i wr => ∃ k : Nat, k ≤ 3 ∧ i = .int .i64 k ∧ ∃ zs : List Int, zs.length = k ∧ zs = (List.zipWith (· + ·) xs ys).take k ∧ JA w v zs wr) (fun _ i _ => 3 - (intOf i).toNat)
  case atStart => exact ⟨0, by omega, rfl, [], rfl, rfl, JA.lit w⟩
  case round =>
    obtain ⟨k, hk, rfl, zs, hzl, hzs, j⟩ := hrel
    have HL : Hid (zs.length = k) := hzl
    have HZS : Hid (zs = (List.zipWith (· + ·) xs ys).take k) := hzs
    clear hzl hzs
    by_cases hlt : k < 3
    · obtain ⟨b, off, rfl, hcell⟩ := h.pos (by omega)
      obtain ⟨b', off', rfl, hcell'⟩ := h'.pos (by omega)
      have c0 : w.cell? ⟨b, off + k, none⟩ = some (.int .i64 (xs[k]?.getD 0)) := by rw [hcell k hlt]; simp
      have c1 : w.cell? ⟨b', off' + k, none⟩ = some (.int .i64 (ys[k]?.getD 0)) := by rw [hcell' k hlt]; simp
      have HP : Hid _ := zip_take (xs := xs) (ys := ys) (k := k) (by rw [HX.out]; exact hlt) (by rw [HY.out]; exact hlt)
      obtain ⟨m1, m2⟩ := hM k
      obtain ⟨m3, m4⟩ := hM' k
      generalize HG : xs[k]?.getD 0 = x at *
      generalize HG' : ys[k]?.getD 0 = y at *
      clear HG HG' hcell hcell' hM hM' h h'
      have KP : Hid (∀ W : World, Below w.heap.size w W → W.cell? ⟨b, off + k, none⟩ = some (.int .i64 x) ∧ W.cell? ⟨b', off' + k, none⟩ = some (.int .i64 y)) := fun W hW =>
        ⟨by rw [hW.cell (p := ⟨b, off + k, none⟩) (block_lt c0)]; exact c0, by rw [hW.cell (p := ⟨b', off' + k, none⟩) (block_lt c1)]; exact c1⟩
      have hSS := And.intro (KP.out _ j.b.drew) (True.intro)
      clear c0 c1
      have hlt' : (k : Int) < 3 := by omega
      have hwr : IntKind.i64.wrap (x + y) = x + y := wrap_id (by omega) (by omega)
      go_upto_region 5 with fail
      refine wp_region_ends (fun w' => w'.cell? ⟨b, off + k, none⟩ = some (.int .i64 x) ∧ w'.cell? ⟨b', off' + k, none⟩ = some (.int .i64 y)) (fun _ => True) 12 (by kernel_rfl) ?_
      refine wpAnyE_take0 (i := 0) (v := ?v0) rfl (by kernel_rfl) (by kernel_rfl) (by kernel_rfl) (by decide) (fun _ _ _ h => h) (Or.inl ⟨by rfl, ?hy0⟩) hSS ?_
      case hy0 => (intro wz hSw; (try dsimp only at hSw); go_simp; try (with_reducible rfl))
      refine wpAnyE_take0 (i := 1) (v := ?v1) rfl (by kernel_rfl) (by kernel_rfl) (by kernel_rfl) (by decide) (fun _ _ _ h => h) (Or.inl ⟨by rfl, ?hy1⟩) hSS ?_
      case hy1 => (intro wz hSw; (try dsimp only at hSw); go_simp; try (with_reducible rfl))
      refine wpAnyE_take0 (i := 2) (v := ?v2) rfl (by kernel_rfl) (by kernel_rfl) (by kernel_rfl) (by decide) (fun _ _ _ h => h) (Or.inl ⟨by rfl, ?hy2⟩) hSS ?_
      case hy2 => (intro wz hSw; (try dsimp only at hSw); go_simp; try (with_reducible rfl))
      refine wpAnyE_take0 (i := 3) (v := ?v3) rfl (by kernel_rfl) (by kernel_rfl) (by kernel_rfl) (by decide) (fun _ _ _ h => h) (Or.inl ⟨by rfl, ?hy3⟩) hSS ?_
      case hy3 => (intro wz hSw; (try dsimp only at hSw); go_simp; try (with_reducible rfl))
      refine wpAnyE_take0 (i := 4) (v := ?v4) rfl (by kernel_rfl) (by kernel_rfl) (by kernel_rfl) (by decide) (fun _ _ _ h => h) (Or.inl ⟨by rfl, ?hy4⟩) hSS ?_
      case hy4 => (intro wz hSw; (try dsimp only at hSw); go_simp; try (with_reducible rfl))
      refine wpAnyE_take0 (i := 5) (v := ?v5) rfl (by kernel_rfl) (by kernel_rfl) (by kernel_rfl) (by decide) (fun _ _ _ h => h) (Or.inl ⟨by rfl, ?hy5⟩) hSS ?_
      case hy5 => (intro wz hSw; (try dsimp only at hSw); go_simp; try (with_reducible rfl))
      refine wpAnyE_take0 (i := 6) (v := ?v6) rfl (by kernel_rfl) (by kernel_rfl) (by kernel_rfl) (by decide) (fun _ _ _ h => h) (Or.inl ⟨by rfl, ?hy6⟩) hSS ?_
      case hy6 => (intro wz hSw; (try dsimp only at hSw); go_simp; try (with_reducible rfl))
      refine wpAnyE_take0 (i := 7) (v := ?v7) rfl (by kernel_rfl) (by kernel_rfl) (by kernel_rfl) (by decide) (fun _ _ _ h => h) (Or.inl ⟨by rfl, ?hy7⟩) hSS ?_
      case hy7 => (intro wz hSw; (try dsimp only at hSw); go_simp; try (with_reducible rfl))
      refine wpAnyE_take0 (i := 8) (v := ?v8) rfl (by kernel_rfl) (by kernel_rfl) (by kernel_rfl) (by decide) (fun _ _ _ h => h) (Or.inl ⟨by rfl, ?hy8⟩) hSS ?_
      case hy8 => (intro wz hSw; (try dsimp only at hSw); go_simp; try (with_reducible rfl))
      refine wpAnyE_take0 (i := 9) (v := ?v9) rfl (by kernel_rfl) (by kernel_rfl) (by kernel_rfl) (by decide) (fun _ _ _ h => h) (Or.inl ⟨by rfl, ?hy9⟩) hSS ?_
      case hy9 => (intro wz hSw; (try dsimp only at hSw); go_simp; try (with_reducible rfl))
      refine wpAnyE_one (i := 10) (by kernel_rfl) rfl (fun K hK => ?_)
      go_simp
      have j1 := j.below (W' := wr.drew) ((Below.refl _ _).drew)
      have jo := j1.o
      rw [HL.out] at jo
      have j2 := j1.alloc (.cells #[.int .i64 (x + y)] 3)
      have hjb := j1.b.size
      refine hK.out _ _ ⟨KP.out _ j2.b, fun _ => trivial⟩ ?_
      clear hK K hSS
      refine wpAnyE_one (i := 11) (by kernel_rfl) rfl (fun K hK => ?_)
      rw [if_pos (by rfl)]
      refine wp_append_lies _ (.tmp 12) (.tmp 22) 26 rfl w.heap.size 3 i0 (.int .i64 0) 1 8 Try.underlying26 hi hz0 hz1 hz2 rfl (by decide) _ k _ (by rfl) (jo.alloc _) ⟨wr.heap.size, 0, none⟩ 1 1 [.int .i64 (x + y)] (by rfl) (by rfl) (news1 wr.drew _ _) (one1 _ _) (by omega) (by unfold maxLen; omega) (by omega) j2.b.size _ rfl ?_
      intro g cp2 w6 hown hgrow hat hlt6
      have j6 := j1.app HL.out hown hgrow
      refine hK.out _ _ ⟨KP.out _ j6.b, fun _ => trivial⟩ ?_
      clear hK K hown hgrow hat j1 j2 jo j
      refine wpAnyE_one (i := 12) (by kernel_rfl) rfl (fun K hK => ?_)
      go_simp
      refine hK.out _ _ ⟨KP.out _ j6.b, fun _ => trivial⟩ ?_
      clear hK K
      refine wpAnyE_done (by kernel_rfl) ?_ _
      go_wp2
      go_roundw
      case rel => exact ⟨k + 1, by omega, by go_num, _, by rw [List.length_append, HL.out]; rfl, by rw [HP.out, HZS.out], j6⟩
      case measure => simp [intOf]; omega
    · obtain rfl : k = 3 := by omega
      have e : zs = List.zipWith (· + ·) xs ys := by rw [HZS.out, List.take_of_length_le (by rw [List.length_zipWith, HX.out, HY.out]; omega)]
      subst e
      go_wp2
      go_ret
      exact ⟨_, rfl, j⟩

set_option maxHeartbeats 1600000 in
theorem sums_any (a c : Option Addr) (cap cap' : Nat) (xs ys : List Int) (M M' : Int) (w : World) (h : Ints w a 3 xs) (h' : Ints w c 3 ys) (hM : bnd M xs) (hM' : bnd M' ys) (hb : M ≤ 2000000000000000000) (hb' : M' ≤ 2000000000000000000) :
    Calls Try.prog 48 #[.slice a 3 cap, .slice c 3 cap'] w fun e w' => ∃ a' cap2 B, e = .returned (.slice a' 3 cap2) ∧ Below w.heap.size w w' ∧ OwnX w' a' B 3 (List.zipWith (· + ·) xs ys) ∧ w.heap.size ≤ B := by
  have HX : Hid (xs.length = 3) := h.1
  go_enter Try.func48, Try.ntmps48
  go_wp2_with fail
  refine (clone_any _ _ _ xs _ h (by omega) (by omega)).mono ?_
  rintro e w1 ⟨v, rfl, j⟩
  have hc1 := h'.below j.b
  have B1 := j.b
  obtain ⟨x, cx, B, rfl, hO, hB0⟩ := j.ownx HX.out
  have hB := hB0 (by omega)
  clear j hB0
  go_wp2_with fail
  refine (addX_any _ _ B _ _ _ xs ys M M' _ hO hc1 (fun b o e => by
    obtain ⟨b1, o1, e1, hcell⟩ := h'.pos (by omega)
    rw [e1] at e
    simp only [Option.some.injEq, Addr.mk.injEq, and_true] at e
    have := block_lt (hcell 0 (by omega))
    omega) (by omega) hM hM' hb hb').mono ?_
  rintro e w2 ⟨rfl, t2, hO2⟩
  have B2 : Below w.heap.size w w2 := B1.trans (t2.below B1.size (fun k hk => by rw [hk.1]; exact hB))
  go_wp2
  go_ret
  exact ⟨_, _, B, rfl, B2, hO2, hB⟩

end Go.Proofs.Ytpnldfembbfgdaa
namespace Go.Proofs.Ytpnldfembbfgdaa
open Go.RowKit Go.Deep
set_option linter.unusedVariables false

theorem others_bnd {D : List Int} {s : Int} (bD : ∀ i : Nat, i < D.length → 0 ≤ D[i]?.getD 0 ∧ D[i]?.getD 0 ≤ 50) : ∀ k : Nat, k ≤ D.length → k ≤ 3 → 0 ≤ others D s k ∧ others D s k ≤ 50 * k
  | 0, _, _ => by simp [others]
  | k + 1, hk, h3 => by
    have ih := others_bnd (s := s) bD k (by omega) (by omega)
    have d := bD k (by omega)
    rw [others]
    split
    · omega
    · rw [IntWalk.wrap64_in _ ⟨by omega, by omega⟩]
      omega

theorem zero_part {C : List Int} (hl : C.length = 3) (b : bnd 10000000 C) : eqB (partL C) [0, 0, 0] = allB 0 C := by
  match C, hl with
  | [x, y, z], _ =>
    have b0 := b 0
    have b1 := b 1
    have b2 := b 2
    simp only [List.getElem?_cons_zero, List.getElem?_cons_succ, Option.getD_some] at b0 b1 b2
    have hs : sg [x, y, z] = 1 ∨ sg [x, y, z] = -1 := by unfold sg; split <;> simp
    have e : partL [x, y, z] = [wrap64 (sg [x, y, z] * x), wrap64 (sg [x, y, z] * y), wrap64 (sg [x, y, z] * z)] := rfl
    rw [e]
    generalize sg [x, y, z] = g at *
    rw [eqB, allB, Bool.eq_iff_iff, decide_eq_true_eq]
    simp only [List.cons.injEq, and_true, List.all_cons, List.all_nil, Bool.and_true, Bool.and_eq_true, inB_iff]
    rcases hs with rfl | rfl
    · rw [IntWalk.wrap64_in _ ⟨by omega, by omega⟩, IntWalk.wrap64_in _ ⟨by omega, by omega⟩, IntWalk.wrap64_in _ ⟨by omega, by omega⟩]
      omega
    · rw [IntWalk.wrap64_in _ ⟨by omega, by omega⟩, IntWalk.wrap64_in _ ⟨by omega, by omega⟩, IntWalk.wrap64_in _ ⟨by omega, by omega⟩]
      omega

/-- What must be ok. -/
def bokB (n m : Nat) (C D : List Int) (ss : List IV) (s : Int) (k : Nat) (E : List Int) (fn fm : Nat) (FC FD : List Int) (FK : Int) (l : Nat) (U : List Int) : Bool := viewB n m C D ss s k E && (formB fn fm FC FD FK && okN 2 9 l U)
/-- The least and the most, if a site knows it. -/
def bnds (m : Nat) (C D : List Int) (ss : List IV) (s : Int) (E : List Int) (FC FD : List Int) (FK : Int) (U : List Int) : Int × Int × Bool :=
  if eqB (partL FC) [0, 0, 0] = true then (atV FC FD FK (List.zipWith (· + ·) C E) U, atV FC FD FK (List.zipWith (· + ·) C E) U, true)
  else if hasI ss (partL FC) < 0 then (0, 0, false)
  else (atV FC FD FK (List.zipWith (· + ·) C E) U - others D s m, atV FC FD FK (List.zipWith (· + ·) C E) U + others D s m, true)
def bansB (n m : Nat) (C D : List Int) (ss : List IV) (s : Int) (k : Nat) (E : List Int) (fn fm : Nat) (FC FD : List Int) (FK : Int) (l : Nat) (U : List Int) : Int × Int × Bool :=
  if bokB n m C D ss s k E fn fm FC FD FK l U = true then bnds m C D ss s E FC FD FK U else (0, 0, false)
def ansV (x : Int × Int × Bool) : Value := .tuple #[.int .i64 x.1, .int .i64 x.2.1, .bool x.2.2]

theorem hasI_copy {ss ts : List IV} {part : List Int} (hl : ts.length = ss.length) (h : copiesIS ss ts) : hasI ts part = hasI ss part := by
  have e : ∀ l : List IV, l.map IV.x = (l.map (fun p => (p.n, p.x))).map (fun q => q.2) := fun l => by rw [List.map_map]; rfl
  rw [hasI, hasI, e, e, copies_pair hl h]
theorem bansB_copy {n m : Nat} {C D : List Int} {ss ts : List IV} {s : Int} {k : Nat} {E : List Int} {fn fm : Nat} {FC FD : List Int} {FK : Int} {l : Nat} {U : List Int} (hl : ts.length = ss.length) (h : copiesIS ss ts) : bansB n m C D ts s k E fn fm FC FD FK l U = bansB n m C D ss s k E fn fm FC FD FK l U := by
  rw [bansB, bansB, bokB, bokB, viewB_copy hl h, bnds, bnds, hasI_copy hl h]

theorem JA.slice3 {w W : World} {v : Value} {xs : List Int} (j : JA w v xs W) (hn : xs.length = 3) : ∃ a cap, v = .slice a 3 cap ∧ Ints W a 3 xs := by
  obtain ⟨a, cap, B, rfl, ho, _⟩ := j.ownx hn
  exact ⟨a, cap, rfl, ho.ints⟩

set_option maxHeartbeats 3200000 in
theorem vbounds_any (a : Option Addr) (cap : Nat) (c : Option Addr) (m cap' : Nat) (ad : Option Addr) (N pc : Nat) (s : Int) (e : Option Addr) (ec : Nat) (u : Option Addr) (uc : Nat) (fa : Option Addr) (fcap : Nat) (fc : Option Addr) (fcap' : Nat) (FK : Int) (C D E U FC FD : List Int) (ss : List IV) (w : World)
    (hC : Ints w a 3 C) (hD : Ints w c m D) (hE : Ints w e 3 E) (hU : Ints w u 2 U) (hA : Ints w fa 3 FC) (hB : Ints w fc 2 FD) (hN : ss.length = N) (hF : ISG w ad ss) (hN1 : N ≤ 1048576) (hm3 : m ≤ 3)
    (bC : bnd 10000 C) (bE : bnd 20000 E) (bU : bnd 9 U) (bA : bnd 10000000 FC) (bB : bnd 10000000 FD) (bK : -10000000 ≤ FK ∧ FK ≤ 10000000) (bD : ∀ i : Nat, i < D.length → 0 ≤ D[i]?.getD 0 ∧ D[i]?.getD 0 ≤ 50) :
    Calls Try.prog 68 #[viewV a 3 cap c m cap' ad N pc s e 3 ec u 2 uc, formV fa 3 fcap fc 2 fcap' FK] w fun r w' => ∃ x, x = bnds m C D ss s E FC FD FK U ∧ r = .returned (.agg #[.int .i64 x.1, .int .i64 x.2.1, .bool x.2.2]) ∧ Below w.heap.size w w' := by
  have HN : Hid (ss.length = N) := hN
  have HZ : Hid ((List.zipWith (· + ·) C E).length = 3) := by show _ = _; rw [List.length_zipWith, hC.1, hE.1]; rfl
  have bV : bnd 30000 (List.zipWith (· + ·) C E) := fun i => by have := bnd_zip (by rw [hC.1, hE.1]) bC bE i; omega
  have ob := others_bnd (s := s) bD m (by rw [hD.1]; exact Nat.le_refl _) hm3
  have p1 := dot_bnd (bndP_of bA bV (by omega) (by omega)) 3
  have p2 := dot_bnd (bndP_of bB bU (by omega) (by omega)) 2
  have HP : Hid (eqB (partL FC) [0, 0, 0] = allB 0 FC) := zero_part hA.1 bA
  obtain ⟨x, hx⟩ : ∃ x, x = bnds m C D ss s E FC FD FK U := ⟨_, rfl⟩
  have HX : Hid _ := hx
  have HV : Hid (bnd 30000 (List.zipWith (· + ·) C E)) := bV
  obtain ⟨n, hn⟩ : ∃ n, n = atV FC FD FK (List.zipWith (· + ·) C E) U := ⟨_, rfl⟩
  obtain ⟨o, ho⟩ : ∃ o, o = others D s m := ⟨_, rfl⟩
  have n1 : -10000000000000 ≤ n := by rw [hn]; unfold atV; omega
  have n2 : n ≤ 10000000000000 := by rw [hn]; unfold atV; omega
  rw [← ho] at ob
  rw [bnds, ← hn, ← ho] at hx
  have HI : Hid _ := hx
  have HNN : Hid _ := hn
  have HO : Hid _ := ho
  obtain ⟨o1, o2⟩ := ob
  have o3 : o ≤ 150 := by omega
  have BCE : Hid (bnd 10000 C ∧ bnd 20000 E) := ⟨bC, bE⟩
  clear hN hx hn ho o2 p1 p2 bV bD bC bE
  have q_0 := ((Cel.new w [.slice a 3 cap, .slice c m cap', .slice ad N pc, .int .i64 s, .slice e 3 ec, .slice u 2 uc] 81).alloc (.cells #[.slice fa 3 fcap, .slice fc 2 fcap', .int .i64 FK] 34)).alloc (.cells #[.int .i64 0, .int .i64 0, .bool false] 91)
  have f_0 := (Cel.new (w.alloc (.cells #[.slice a 3 cap, .slice c m cap', .slice ad N pc, .int .i64 s, .slice e 3 ec, .slice u 2 uc] 81)) [.slice fa 3 fcap, .slice fc 2 fcap', .int .i64 FK] 34).alloc (.cells #[.int .i64 0, .int .i64 0, .bool false] 91)
  have r_0 := Cel.new ((w.alloc (.cells #[.slice a 3 cap, .slice c m cap', .slice ad N pc, .int .i64 s, .slice e 3 ec, .slice u 2 uc] 81)).alloc (.cells #[.slice fa 3 fcap, .slice fc 2 fcap', .int .i64 FK] 34)) [.int .i64 0, .int .i64 0, .bool false] 91
  have B_0 := (((Below.refl w.heap.size w).alloc (Nat.le_refl _) (.cells #[.slice a 3 cap, .slice c m cap', .slice ad N pc, .int .i64 s, .slice e 3 ec, .slice u 2 uc] 81)).alloc (by simp) (.cells #[.slice fa 3 fcap, .slice fc 2 fcap', .int .i64 FK] 34)).alloc (by simp; omega) (.cells #[.int .i64 0, .int .i64 0, .bool false] 91)
  rw [World.size_alloc] at f_0
  rw [World.size_alloc, World.size_alloc] at r_0
  go_enter Try.func68, Try.ntmps68
  go_upto_region 1 with fail
  obtain ⟨W, hW⟩ : ∃ W, W = ((w.alloc (.cells #[.slice a 3 cap, .slice c m cap', .slice ad N pc, .int .i64 s, .slice e 3 ec, .slice u 2 uc] 81)).alloc (.cells #[.slice fa 3 fcap, .slice fc 2 fcap', .int .i64 FK] 34)).alloc (.cells #[.int .i64 0, .int .i64 0, .bool false] 91) := ⟨_, rfl⟩
  rw [← hW] at q_0 f_0 r_0 B_0 ⊢
  clear hW
  have CC : Hid (∀ X : World, Cel X w.heap.size [.slice a 3 cap, .slice c m cap', .slice ad N pc, .int .i64 s, .slice e 3 ec, .slice u 2 uc] 81 → Cel X (w.heap.size + 1) [.slice fa 3 fcap, .slice fc 2 fcap', .int .i64 FK] 34 → X.cell? ⟨w.heap.size, 0, none⟩ = some (.slice a 3 cap) ∧ X.cell? ⟨w.heap.size, 1, none⟩ = some (.slice c m cap') ∧ X.cell? ⟨w.heap.size, 2, none⟩ = some (.slice ad N pc) ∧ X.cell? ⟨w.heap.size, 3, none⟩ = some (.int .i64 s) ∧ X.cell? ⟨w.heap.size, 4, none⟩ = some (.slice e 3 ec) ∧ X.cell? ⟨w.heap.size, 5, none⟩ = some (.slice u 2 uc) ∧ X.cell? ⟨w.heap.size + 1, 0, none⟩ = some (.slice fa 3 fcap) ∧ X.cell? ⟨w.heap.size + 1, 1, none⟩ = some (.slice fc 2 fcap') ∧ X.cell? ⟨w.heap.size + 1, 2, none⟩ = some (.int .i64 FK)) := fun X h1 h2 => ⟨h1.cell 0, h1.cell 1, h1.cell 2, h1.cell 3, h1.cell 4, h1.cell 5, h2.cell 0, h2.cell 1, h2.cell 2⟩
  have hn0 := CC.out W q_0 f_0
  go_region_held3 (fun w' => w'.cell? ⟨w.heap.size, 0, none⟩ = some (.slice a 3 cap) ∧ w'.cell? ⟨w.heap.size, 1, none⟩ = some (.slice c m cap') ∧ w'.cell? ⟨w.heap.size, 2, none⟩ = some (.slice ad N pc) ∧ w'.cell? ⟨w.heap.size, 3, none⟩ = some (.int .i64 s) ∧ w'.cell? ⟨w.heap.size, 4, none⟩ = some (.slice e 3 ec) ∧ w'.cell? ⟨w.heap.size, 5, none⟩ = some (.slice u 2 uc) ∧ w'.cell? ⟨w.heap.size + 1, 0, none⟩ = some (.slice fa 3 fcap) ∧ w'.cell? ⟨w.heap.size + 1, 1, none⟩ = some (.slice fc 2 fcap') ∧ w'.cell? ⟨w.heap.size + 1, 2, none⟩ = some (.int .i64 FK)) (first | with_reducible assumption | exact hn0)
    (first
      | (go_at_call 48
         refine (sums_any _ _ _ _ C E _ _ _ (by exact hC.below B_0.drew) (by exact hE.below B_0.drew) BCE.out.1 BCE.out.2 (by omega) (by omega)).mono ?_
         rintro ee w1 ⟨va, vc, VB, rfl, bd_1, hO, -⟩
         have b_1 := below_of_drew bd_1
         have B_1 := B_0.trans (b_1.mono B_0.size)
         have q_1 := q_0.below b_1
         have f_1 := f_0.below b_1
         have r_1 := r_0.below b_1
         have hn1 := CC.out w1 q_1 f_1)
      | (go_at_call 42
         refine (iat30_any _ _ _ _ _ FC FD _ _ _ _ (List.zipWith (· + ·) C E) U _ (by exact hA.below B_1) (by exact hB.below B_1) hO.ints (by exact hU.below B_1) bA bB bK HV.out bU).mono ?_
         rintro ee w2 ⟨rfl, b_2⟩
         rw [← HNN.out]
         have B_2 := B_1.trans (b_2.mono B_1.size)
         have q_2 := q_1.below b_2
         have f_2 := f_1.below b_2
         have r_2 := r_1.below b_2
         have hn2 := CC.out w2 q_2 f_2))
  clear hn0 hn1 hO bd_1 b_1 b_2 B_0 B_1 q_0 q_1 f_0 f_1 r_0 r_1
  obtain ⟨k0, k1, k2, k3, k4, k5, k6, k7, k8⟩ := hn2
  cases hz : allB 0 FC
  · go_wp2_with fail
    refine (within_any _ _ _ FC _ _ (hA.below B_2) (by omega) (by omega) (by omega)).mono ?_
    rintro ee w3 ⟨rfl, rfl⟩
    rw [hz]
    go_upto_region 4 with fail
    have hn3 := CC.out _ q_2 f_2
    go_region_held3 (fun w' => w'.cell? ⟨w.heap.size, 0, none⟩ = some (.slice a 3 cap) ∧ w'.cell? ⟨w.heap.size, 1, none⟩ = some (.slice c m cap') ∧ w'.cell? ⟨w.heap.size, 2, none⟩ = some (.slice ad N pc) ∧ w'.cell? ⟨w.heap.size, 3, none⟩ = some (.int .i64 s) ∧ w'.cell? ⟨w.heap.size, 4, none⟩ = some (.slice e 3 ec) ∧ w'.cell? ⟨w.heap.size, 5, none⟩ = some (.slice u 2 uc) ∧ w'.cell? ⟨w.heap.size + 1, 0, none⟩ = some (.slice fa 3 fcap) ∧ w'.cell? ⟨w.heap.size + 1, 1, none⟩ = some (.slice fc 2 fcap') ∧ w'.cell? ⟨w.heap.size + 1, 2, none⟩ = some (.int .i64 FK)) (first | with_reducible assumption | exact hn3)
      (first
        | (go_at_call 90
           refine (ipart_any _ _ _ _ _ _ _ FC _ (by exact hA.below B_2.drew) (by omega)).mono ?_
           rintro ee w4 ⟨rfl, bd_4, kp⟩
           have b_4 := below_of_drew bd_4
           have B_4 := B_2.trans (b_4.mono B_2.size)
           have q_4 := q_2.below b_4
           have f_4 := f_2.below b_4
           have r_4 := r_2.below b_4
           have hn4 := CC.out w4 q_4 f_4)
        | (go_at_call 89
           refine (ihas_any _ _ _ ss _ _ _ (partL FC) _ HN.out (by exact hF.below B_4) hN1 (by exact kp.ints' (by rw [part_len]; exact hA.1)) (by omega)).mono ?_
           rintro ee w5 ⟨rfl, b_5⟩
           have B_5 := B_4.trans (b_5.mono B_4.size)
           have q_5 := q_4.below b_5
           have f_5 := f_4.below b_5
           have r_5 := r_4.below b_5
           have hn5 := CC.out w5 q_5 f_5))
    clear hn3 hn4 bd_4 b_4 b_5 B_2 B_4 q_2 q_4 f_2 f_4 r_2 r_4 kp k0 k1 k2 k3 k4 k5 k6 k7 k8
    obtain ⟨k0, k1, k2, k3, k4, k5, k6, k7, k8⟩ := hn5
    have d0 := r_5.cell 0
    have d1 := r_5.cell 1
    have d2 := r_5.cell 2
    have e0 := r_5.free 0
    have e1 := r_5.free 1
    have e2 := r_5.free 2
    have lt := r_5.lt
    simp only [List.getElem?_cons_zero, List.getElem?_cons_succ] at d0 d1 d2
    by_cases hh : hasI ss (partL FC) < 0
    · have X : x = (0, 0, false) := by rw [HI.out, HP.out, hz, if_neg (by decide), if_pos hh]
      have HX2 : Hid _ := X
      clear X
      go_wp2
      refine bodyPost_ret (v := .agg #[.int .i64 0, .int .i64 0, .bool false]) (by simp [results, Try.results68, go_sem, d0, d1, d2]) rfl ⟨x, HX.out, by rw [HX2.out], ?_⟩
      exact (((B_5.setCell (by simp only []; omega) _).setCell (by simp only []; omega) _).setCell (by simp only []; omega) _)
    · have X : x = (n - o, n + o, true) := by rw [HI.out, HP.out, hz, if_neg (by decide), if_neg hh]
      have HX2 : Hid _ := X
      clear X
      go_wp2_with fail
      refine (iothers_any _ _ _ _ _ _ D s _ (hD.below B_5) (by omega)).mono ?_
      rintro ee w6 ⟨rfl, b_6⟩
      rw [← HO.out]
      have B_6 := B_5.trans (b_6.mono B_5.size)
      have r_6 := r_5.below b_6
      clear d0 d1 d2 e0 e1 e2 lt
      have d0 := r_6.cell 0
      have d1 := r_6.cell 1
      have d2 := r_6.cell 2
      have e0 := r_6.free 0
      have e1 := r_6.free 1
      have e2 := r_6.free 2
      have lt := r_6.lt
      simp only [List.getElem?_cons_zero, List.getElem?_cons_succ] at d0 d1 d2
      go_wp2
      refine bodyPost_ret (v := .agg #[.int .i64 (n - o), .int .i64 (n + o), .bool true]) (by simp [results, Try.results68, go_sem, d0, d1, d2]) rfl ⟨x, HX.out, by rw [HX2.out], ?_⟩
      exact (((B_6.setCell (by simp only []; omega) _).setCell (by simp only []; omega) _).setCell (by simp only []; omega) _)
  · have X : x = (n, n, true) := by rw [HI.out, HP.out, hz, if_pos rfl]
    have HX2 : Hid _ := X
    clear X
    go_wp2_with fail
    refine (within_any _ _ _ FC _ _ (hA.below B_2) (by omega) (by omega) (by omega)).mono ?_
    rintro ee w3 ⟨rfl, rfl⟩
    rw [hz]
    have d0 := r_2.cell 0
    have d1 := r_2.cell 1
    have d2 := r_2.cell 2
    have e0 := r_2.free 0
    have e1 := r_2.free 1
    have e2 := r_2.free 2
    have lt := r_2.lt
    simp only [List.getElem?_cons_zero, List.getElem?_cons_succ] at d0 d1 d2
    go_wp2
    refine bodyPost_ret (v := .agg #[.int .i64 n, .int .i64 n, .bool true]) (by simp [results, Try.results68, go_sem, d0, d1, d2]) rfl ⟨x, HX.out, by rw [HX2.out], ?_⟩
    exact (((B_2.setCell (by simp only []; omega) _).setCell (by simp only []; omega) _).setCell (by simp only []; omega) _)

end Go.Proofs.Ytpnldfembbfgdaa
