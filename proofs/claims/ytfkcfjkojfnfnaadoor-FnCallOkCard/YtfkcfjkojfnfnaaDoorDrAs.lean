/-
  Acts that are drawn: each is ok; all of them lie in new memory.
-/
import Derived.Test.YtfkcfjkojfnfnaaDoorDrAc
import Derived.Test.YtfkcfjkojfnfnaaDoorLineSS
namespace Go.Proofs.YtfkcfjkojfnfnaaDoor
open Go.RowKit
set_option linter.unusedVariables false
set_option maxRecDepth 100000

theorem LinesG.off {S : Nat → Prop} {w w' : World} {ad : Option Addr} {ls : List LV} (h : LinesG w ad ls) (t : Touch S w w') (h0 : ∀ b o, ad = some ⟨b, o, none⟩ → ¬ S b) (h1 : ∀ i, i < ls.length → (∀ b o, (ls[i]?.getD noLV).f.a = some ⟨b, o, none⟩ → ¬ S b) ∧ (∀ b o, (ls[i]?.getD noLV).f.c = some ⟨b, o, none⟩ → ¬ S b)) : LinesG w' ad ls := by
  intro i hi
  obtain ⟨b, off, e, hc, ha⟩ := h i hi
  have hl : b < w.heap.size := block_lt (v := .int .i64 (ls[i]?.getD noLV).kind) (by rw [hc 0 (by omega)]; rfl)
  have hb := t.block b hl (h0 b off e)
  exact ⟨b, off, e, fun r hr => (World.cell?_of_block hb).trans (hc r hr), ha.off t (h1 i hi).1 (h1 i hi).2⟩
/-- An act that is ok, all of whose blocks are of a kind. -/
structure AcP (P : Nat → Prop) (W : World) (s : L2V) : Prop where
  len : s.x.length = s.n
  g : LinesG W s.a s.x
  ok : actB s.n s.x = true
  pa : ∀ b o, s.a = some ⟨b, o, none⟩ → P b
  pf : ∀ i, i < s.x.length → (∀ b o, (s.x[i]?.getD noLV).f.a = some ⟨b, o, none⟩ → P b) ∧ (∀ b o, (s.x[i]?.getD noLV).f.c = some ⟨b, o, none⟩ → P b)
section
variable {P P' : Nat → Prop} {W W' : World} {s : L2V}
theorem AcP.touch {S : Nat → Prop} (h : AcP P W s) (t : Touch S W W') (hS : ∀ b, P b → ¬ S b) : AcP P W' s :=
  ⟨h.len, h.g.off t (fun b o e => hS b (h.pa b o e)) (fun i hi => ⟨fun b o e => hS b ((h.pf i hi).1 b o e), fun b o e => hS b ((h.pf i hi).2 b o e)⟩), h.ok, h.pa, h.pf⟩
theorem AcP.below (h : AcP P W s) (b : Below W.heap.size W W') : AcP P W' s := ⟨h.len, h.g.below b, h.ok, h.pa, h.pf⟩
theorem AcP.mono (h : AcP P W s) (hP : ∀ b, P b → P' b) : AcP P' W s := ⟨h.len, h.g, h.ok, fun b o e => hP b (h.pa b o e), fun i hi => ⟨fun b o e => hP b ((h.pf i hi).1 b o e), fun b o e => hP b ((h.pf i hi).2 b o e)⟩⟩
theorem AcP.six (h : AcP P W s) : s.n ≤ 6 := by
  have := h.ok
  unfold actB at this
  simp only [Bool.and_eq_true, decide_eq_true_eq] at this
  omega
theorem AcP.lg (h : AcP P W s) : LG W s := ⟨h.len, h.g, by have := h.six; omega⟩
end
theorem JL.act {wL W : World} {R : Nat} {a : Option Addr} {n cap : Nat} {bs : List Int} {q : Int} {ad : Option Addr} {N c : Nat} {ls : List LV} (j : JL wL R a n cap bs q (.slice ad N c) ls W) (hl : ls.length = N) (ho : actB N ls = true) : AcP (fun b => wL.heap.size ≤ b ∧ b < W.heap.size) W ⟨ad, N, c, ls⟩ := by
  refine ⟨hl, j.g hl, ho, fun b o e => ?_, fun i hi => ⟨fun b o e => ⟨(j.na i hi b o e).1, (j.na i hi b o e).2.1⟩, fun b o e => ⟨(j.nc i hi b o e).1, (j.nc i hi b o e).2.1⟩⟩⟩
  have e' : ad = some ⟨b, o, none⟩ := e
  subst e'
  exact j.o.lt b rfl

/-- Acts that are being drawn. -/
structure JAs (w : World) (R : Nat) (a : Option Addr) (n cap : Nat) (bs : List Int) (q : Int) (v : Value) (ss : List L2V) (W : World) : Prop where
  t : Touch (fun x => x = R) w W
  r : Rd W R a n cap bs q
  o : W.ownsRow w.heap.size 43 1 v ss.length (ss.map L2V.v)
  ac : ∀ i, i < ss.length → AcP (fun b => w.heap.size ≤ b ∧ b < W.heap.size ∧ v.ownBlock ≠ some b) W (ss[i]?.getD noL)
  lR : R < w.heap.size
  lb : 0 < n → ∀ b o, a = some ⟨b, o, none⟩ → b < w.heap.size
section
variable {w W W' : World} {R : Nat} {a : Option Addr} {n cap : Nat} {bs : List Int} {q : Int} {v : Value} {ss : List L2V}
theorem JAs.below (j : JAs w R a n cap bs q v ss W) (b : Below W.heap.size W W') : JAs w R a n cap bs q v ss W' :=
  ⟨j.t.trans (Touch.of b), j.r.below b, own_belowL j.o b, fun i hi => ((j.ac i hi).below b).mono (fun x h => ⟨h.1, Nat.lt_of_lt_of_le h.2.1 b.size, h.2.2⟩), j.lR, j.lb⟩
theorem JAs.pick {q' : Int} (j : JAs w R a n cap bs q v ss W) (t : Touch (fun x => x = R) W W') (r : Rd W' R a n cap bs q') : JAs w R a n cap bs q' v ss W' := by
  have lR := j.lR
  exact ⟨j.t.trans t, r, ownsRow_touch j.o t (fun k h => by omega), fun i hi => ((j.ac i hi).touch t (fun b h => by omega)).mono (fun x h => ⟨h.1, Nat.lt_of_lt_of_le h.2.1 t.size, h.2.2⟩), j.lR, j.lb⟩
theorem JAs.lsg {ad : Option Addr} {N c : Nat} (j : JAs w R a n cap bs q (.slice ad N c) ss W) (hl : ss.length = N) : LSG W ad ss := by
  intro i hi
  rcases j.o.2 with ⟨hv, h0⟩ | ⟨g, cap', cur, hv, _⟩
  · omega
  · have hv' : ad = some ⟨g, 0, none⟩ := by simp only [Value.slice.injEq] at hv; exact hv.1
    subst hv'
    refine ⟨g, 0, rfl, ?_, (j.ac i hi).lg⟩
    have o := j.o
    rw [hl] at o
    have := o.cellAt i (by omega)
    rw [Nat.zero_add, this, List.getElem?_map, List.getElem?_eq_getElem hi]
    simp
theorem JAs.app {s : L2V} {g c k H : Nat} (j : JAs w R a n cap bs q v ss W) (hk : ss.length = k) (hs : AcP (fun b => w.heap.size ≤ b ∧ b < H ∧ v.ownBlock ≠ some b) W s) (hH : H ≤ W.heap.size) (hsz : ∀ i, i < ss.length → AcP (fun b => b < H) W (ss[i]?.getD noL))
    (hown : W'.ownsRow w.heap.size 43 1 (.slice (some ⟨g, 0, none⟩) (k + 1) c) (k + 1) (ss.map L2V.v ++ [s.v])) (hg : W.grownBy W' v.ownBlock) (hat : v.ownBlock = some g ∨ H ≤ g) : JAs w R a n cap bs q (.slice (some ⟨g, 0, none⟩) (k + 1) c) (ss ++ [s]) W' := by
  have hr : ∀ x, v.ownBlock = some x → w.heap.size ≤ x := fun x hx => (j.o.lt x hx).1
  have lR := j.lR
  have T : Touch (fun x => v.ownBlock = some x) W W' := ⟨hg.os, hg.tape, hg.output, hg.size, fun x hx hs => hg.block x hx (fun e => hs e.symm)⟩
  have hn : ∀ b, v.ownBlock ≠ some b → b < H → (Value.slice (some ⟨g, 0, none⟩) (k + 1) c).ownBlock ≠ some b := fun b h1 h2 e => by
    simp only [Value.ownBlock, Option.some.injEq] at e
    rcases hat with h | h
    · rw [h] at h1; exact h1 (by rw [e])
    · omega
  have hs' := hg.size
  refine ⟨j.t.grown hg hr, j.r.touch T (fun e => by have := hr _ e; omega) (fun h0 b o hab e => by have := j.lb h0 b o hab; have := hr _ e; omega), ?_, fun i hi => ?_, j.lR, j.lb⟩
  · rw [List.length_append, hk, List.map_append]
    simpa using hown
  · by_cases h : i < ss.length
    · rw [List.getElem?_append_left h]
      have h1 := (j.ac i h).touch T (fun b hb => hb.2.2)
      have h2 := hsz i h
      exact ⟨h1.len, h1.g, h1.ok, fun b o e => ⟨(h1.pa b o e).1, by have := h2.pa b o e; omega, hn b (h1.pa b o e).2.2 (h2.pa b o e)⟩, fun m hm => ⟨fun b o e => ⟨((h1.pf m hm).1 b o e).1, by have := (h2.pf m hm).1 b o e; omega, hn b ((h1.pf m hm).1 b o e).2.2 ((h2.pf m hm).1 b o e)⟩, fun b o e => ⟨((h1.pf m hm).2 b o e).1, by have := (h2.pf m hm).2 b o e; omega, hn b ((h1.pf m hm).2 b o e).2.2 ((h2.pf m hm).2 b o e)⟩⟩⟩
    · have : i = ss.length := by rw [List.length_append] at hi; simp at hi; omega
      subst this
      have e : (ss ++ [s])[ss.length]?.getD noL = s := by simp
      rw [e]
      exact (hs.touch T (fun b hb => hb.2.2)).mono (fun b hb => ⟨hb.1, by omega, hn b hb.2.2 hb.2.1⟩)
end

theorem Tryd.infoLns : (Tryd.prog.info? 43).map (fun i => (i.zero, i.size, i.bytes)) = some (some (.slice none 0 0), 1, 24) := by kernel_rfl

set_option maxHeartbeats 6400000 in
theorem acts_f (R : Nat) (a : Option Addr) (n cap : Nat) (bs : List Int) (p : Int) (w : World) (rd : Rd w R a n cap bs p) (hp : 0 ≤ p) (hp1 : p ≤ 6000000) (ha : 0 < n → ∀ b o, a = some ⟨b, o, none⟩ → b < w.heap.size) :
    Calls Tryd.prog 116 #[.pointer (some ⟨R, 0, none⟩)] w fun e w' => ∃ ad N c ss q, e = .returned (.slice ad N c) ∧ JAs w R a n cap bs q (.slice ad N c) ss w' ∧ ss.length = N ∧ 1 ≤ N ∧ N ≤ 4 ∧ p ≤ q ∧ q ≤ p + 330 := by
  have hRl := rd.c.lt
  have al := (Below.refl w.heap.size w).alloc (Nat.le_refl _) (.cells #[] 43)
  have o0 := World.ownsRow_lit (base := w.heap.size) (e := 43) (size := 1) w #[] 0 (Nat.le_refl _) (by unfold maxLen; omega) rfl
  have j0 : JAs w R a n cap bs p (.slice (some ⟨w.heap.size, 0, none⟩) 0 0) [] (w.alloc (.cells #[] 43)) := ⟨Touch.of al, rd.below al, o0, fun i hi => by simp at hi, hRl, ha⟩
  obtain ⟨i0, hi, hz0, hz1, hz2⟩ := info_parts Tryd.infoLns
  clear al o0 rd
  go_enter Tryd.func116, Tryd.ntmps116
  go_wp2_with fail
  refine (pick_any R a n cap bs p 4 _ j0.r (by omega) (by omega) (by omega) (by omega)).mono ?_
  rintro e wS ⟨rk, k0, k1, rfl, t5, R5⟩
  obtain ⟨rk, rfl⟩ := Int.eq_ofNat_of_zero_le k0
  replace j0 := j0.pick t5 R5
  clear t5 R5 k0
  go_wp2_with fail
  go_loopw [3, 4] (fun v i wr => ∃ (m : Nat) (ss : List L2V) (q : Int), i = .int .i64 m ∧ ss.length + m = rk + 1 ∧ JAs w R a n cap bs q v ss wr ∧ p ≤ q ∧ q + 80 * m ≤ p + 330) (fun _ i _ => (intOf i).toNat)
  case atStart => exact ⟨rk + 1, [], _, by go_num, by simp, j0, by omega, by omega⟩
  case round =>
    clear j0
    obtain ⟨m, ss, q, rfl, hlm, j, hq0, hq1⟩ := hrel
    by_cases hm : 0 < m
    · have hm' : (0 : Int) < (m : Int) := by omega
      obtain ⟨k, hk⟩ : ∃ k, k = ss.length := ⟨_, rfl⟩
      have HK : Hid (ss.length = k) := hk.symm
      have hlm' : k + m = rk + 1 := by omega
      obtain ⟨vad, vcap, rfl⟩ := own_slice j.o
      rw [← hk] at j
      rw [← hk]
      clear hk hlm
      have hvb := fun x hx => ((j.o.lt x hx).2 : x < wr.heap.size)
      go_wp2_with fail
      refine (act_f R a n cap bs q _ j.r (by omega) (by omega) j.r.ha).mono ?_
      rintro e w5 ⟨ad, N, c, ls, q5, rfl, d5, hN, hok, v0, v1⟩
      have hszL := j.t.size
      replace j := j.pick d5.t d5.r
      have sa := d5.act hN hok
      have hs5 := d5.t.size
      clear d5
      have al := (Below.refl w5.heap.size w5).alloc (Nat.le_refl _) (.cells #[.slice ad N c] 43)
      have SZ : ∀ i, i < ss.length → AcP (fun b => b < w5.heap.size) (w5.alloc (.cells #[.slice ad N c] 43)) (ss[i]?.getD noL) := fun i hi => ((j.ac i hi).mono (fun b hb => hb.2.1)).below al
      have ja := j.below al
      have hsa := (sa.below al).mono (P' := fun b => w.heap.size ≤ b ∧ b < w5.heap.size ∧ (Value.slice vad k vcap).ownBlock ≠ some b) (fun b hb => ⟨by omega, hb.2, fun e2 => by have := hvb b e2; omega⟩)
      have hszA := ja.t.size
      clear al j sa
      go_wp2_with (at_builtin; refine wpList_append_lies _ rfl (.tmp 13) (.tmp 16) 53 rfl w.heap.size 43 i0 _ 1 24 Tryd.underlying53 hi hz0 hz1 hz2 rfl (by omega) (.slice vad k vcap) k (ss.map L2V.v) (by rfl) (by have h := ja.o; rw [HK.out] at h; exact h) ⟨w5.heap.size, 0, none⟩ 1 1 [.slice ad N c] (by rfl) (by rfl) (World.news_of_block (cs := #[.slice ad N c]) (t := 43) (fr := (0, 0)) (heap_alloc_new w5 _)) (by simp [Value.oneCell']) (by omega) (by unfold maxLen; omega) (by omega) hszA (w5.heap.size + 1) (by rw [World.size_alloc]) ?_)
      intro g9 cp9 w9 hown hgrow hat _
      have jn := ja.app (s := ⟨ad, N, c, ls⟩) (H := w5.heap.size) HK.out hsa (by rw [World.size_alloc]; omega) SZ hown hgrow (by rcases hat with h | h; exact .inl h; exact .inr (by omega))
      clear hown hgrow ja hsa SZ
      go_wp2
      go_roundw
      case rel => exact ⟨m - 1, ss ++ [⟨ad, N, c, ls⟩], q5, by go_num, by rw [List.length_append, HK.out]; simp; omega, jn, by omega, by omega⟩
      case measure => simp [intOf]; omega
    · have hm' : ¬ (0 : Int) < (m : Int) := by omega
      obtain ⟨vad, vcap, rfl⟩ := own_slice j.o
      go_wp2
      go_ret
      exact ⟨vad, ss.length, vcap, rfl, by first | exact ⟨ss, ⟨q, j, by first | exact ⟨rfl, by omega, by omega, by omega, by omega⟩ | omega⟩⟩ | (refine ⟨ss, ?_⟩; simp; exact ⟨q, j, by omega⟩)⟩

end Go.Proofs.YtfkcfjkojfnfnaaDoor
