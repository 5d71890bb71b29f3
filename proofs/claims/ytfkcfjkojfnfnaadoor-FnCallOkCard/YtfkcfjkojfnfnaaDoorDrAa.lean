/-
  Acts that are drawn, whatever may be wrong with them; all of them lie in new memory.
-/
import Derived.Test.YtfkcfjkojfnfnaaDoorDrAs
import Derived.Test.YtfkcfjkojfnfnaaDoorDrAy
namespace Go.Proofs.YtfkcfjkojfnfnaaDoor
open Go.RowKit
set_option linter.unusedVariables false
set_option maxRecDepth 100000

/-- An act all of whose blocks are of a kind. -/
structure AcQ (P : Nat → Prop) (W : World) (s : L2V) : Prop where
  len : s.x.length = s.n
  g : LinesG W s.a s.x
  n8 : s.n ≤ 8
  pa : ∀ b o, s.a = some ⟨b, o, none⟩ → P b
  pf : ∀ i, i < s.x.length → (∀ b o, (s.x[i]?.getD noLV).f.a = some ⟨b, o, none⟩ → P b) ∧ (∀ b o, (s.x[i]?.getD noLV).f.c = some ⟨b, o, none⟩ → P b)
section
variable {P P' : Nat → Prop} {W W' : World} {s : L2V}
theorem AcQ.touch {S : Nat → Prop} (h : AcQ P W s) (t : Touch S W W') (hS : ∀ b, P b → ¬ S b) : AcQ P W' s :=
  ⟨h.len, h.g.off t (fun b o e => hS b (h.pa b o e)) (fun i hi => ⟨fun b o e => hS b ((h.pf i hi).1 b o e), fun b o e => hS b ((h.pf i hi).2 b o e)⟩), h.n8, h.pa, h.pf⟩
theorem AcQ.below (h : AcQ P W s) (b : Below W.heap.size W W') : AcQ P W' s := ⟨h.len, h.g.below b, h.n8, h.pa, h.pf⟩
theorem AcQ.mono (h : AcQ P W s) (hP : ∀ b, P b → P' b) : AcQ P' W s := ⟨h.len, h.g, h.n8, fun b o e => hP b (h.pa b o e), fun i hi => ⟨fun b o e => hP b ((h.pf i hi).1 b o e), fun b o e => hP b ((h.pf i hi).2 b o e)⟩⟩
theorem AcQ.lg (h : AcQ P W s) : LG W s := ⟨h.len, h.g, by have := h.n8; omega⟩
end
theorem AcP.q {P : Nat → Prop} {W : World} {s : L2V} (h : AcP P W s) : AcQ P W s := ⟨h.len, h.g, by have := h.six; omega, h.pa, h.pf⟩
theorem JL.actq {wL W : World} {R : Nat} {a : Option Addr} {n cap : Nat} {bs : List Int} {q : Int} {ad : Option Addr} {N c : Nat} {ls : List LV} (j : JL wL R a n cap bs q (.slice ad N c) ls W) (hl : ls.length = N) (ho : N ≤ 8) : AcQ (fun b => wL.heap.size ≤ b ∧ b < W.heap.size) W ⟨ad, N, c, ls⟩ := by
  refine ⟨hl, j.g hl, ho, fun b o e => ?_, fun i hi => ⟨fun b o e => ⟨(j.na i hi b o e).1, (j.na i hi b o e).2.1⟩, fun b o e => ⟨(j.nc i hi b o e).1, (j.nc i hi b o e).2.1⟩⟩⟩
  have e' : ad = some ⟨b, o, none⟩ := e
  subst e'
  exact j.o.lt b rfl

/-- Acts that are being drawn. -/
structure JBs (w : World) (R : Nat) (a : Option Addr) (n cap : Nat) (bs : List Int) (q : Int) (v : Value) (ss : List L2V) (W : World) : Prop where
  t : Touch (fun x => x = R) w W
  r : Rd W R a n cap bs q
  o : W.ownsRow w.heap.size 43 1 v ss.length (ss.map L2V.v)
  ac : ∀ i, i < ss.length → AcQ (fun b => w.heap.size ≤ b ∧ b < W.heap.size ∧ v.ownBlock ≠ some b) W (ss[i]?.getD noL)
  lR : R < w.heap.size
  lb : 0 < n → ∀ b o, a = some ⟨b, o, none⟩ → b < w.heap.size
section
variable {w W W' : World} {R : Nat} {a : Option Addr} {n cap : Nat} {bs : List Int} {q : Int} {v : Value} {ss : List L2V}
theorem JBs.below (j : JBs w R a n cap bs q v ss W) (b : Below W.heap.size W W') : JBs w R a n cap bs q v ss W' :=
  ⟨j.t.trans (Touch.of b), j.r.below b, own_belowL j.o b, fun i hi => ((j.ac i hi).below b).mono (fun x h => ⟨h.1, Nat.lt_of_lt_of_le h.2.1 b.size, h.2.2⟩), j.lR, j.lb⟩
theorem JBs.pick {q' : Int} (j : JBs w R a n cap bs q v ss W) (t : Touch (fun x => x = R) W W') (r : Rd W' R a n cap bs q') : JBs w R a n cap bs q' v ss W' := by
  have lR := j.lR
  exact ⟨j.t.trans t, r, ownsRow_touch j.o t (fun k h => by omega), fun i hi => ((j.ac i hi).touch t (fun b h => by omega)).mono (fun x h => ⟨h.1, Nat.lt_of_lt_of_le h.2.1 t.size, h.2.2⟩), j.lR, j.lb⟩
theorem JBs.lsg {ad : Option Addr} {N c : Nat} (j : JBs w R a n cap bs q (.slice ad N c) ss W) (hl : ss.length = N) : LSG W ad ss := by
  intro i hi
  rcases j.o.2 with ⟨hv, h0⟩ | ⟨g, cap', cur, hv, _⟩
  · omega
  · have hv' : ad = some ⟨g, 0, none⟩ := by simp only [Value.slice.injEq] at hv; exact hv.1
    subst hv'
    refine ⟨g, 0, rfl, ?_, (j.ac i hi).lg⟩
    have o := j.o
    rw [hl] at o
    have := o.cellAt i (by omega)
    rw [Nat.zero_add, this, List.getElem?_map, List.getElem?_eq_getElem hi]
    simp
theorem JBs.app {s : L2V} {g c k H : Nat} (j : JBs w R a n cap bs q v ss W) (hk : ss.length = k) (hs : AcQ (fun b => w.heap.size ≤ b ∧ b < H ∧ v.ownBlock ≠ some b) W s) (hH : H ≤ W.heap.size) (hsz : ∀ i, i < ss.length → AcQ (fun b => b < H) W (ss[i]?.getD noL))
    (hown : W'.ownsRow w.heap.size 43 1 (.slice (some ⟨g, 0, none⟩) (k + 1) c) (k + 1) (ss.map L2V.v ++ [s.v])) (hg : W.grownBy W' v.ownBlock) (hat : v.ownBlock = some g ∨ H ≤ g) : JBs w R a n cap bs q (.slice (some ⟨g, 0, none⟩) (k + 1) c) (ss ++ [s]) W' := by
  have hr : ∀ x, v.ownBlock = some x → w.heap.size ≤ x := fun x hx => (j.o.lt x hx).1
  have lR := j.lR
  have T : Touch (fun x => v.ownBlock = some x) W W' := ⟨hg.os, hg.tape, hg.output, hg.size, fun x hx hs => hg.block x hx (fun e => hs e.symm)⟩
  have hn : ∀ b, v.ownBlock ≠ some b → b < H → (Value.slice (some ⟨g, 0, none⟩) (k + 1) c).ownBlock ≠ some b := fun b h1 h2 e => by
    simp only [Value.ownBlock, Option.some.injEq] at e
    rcases hat with h | h
    · rw [h] at h1; exact h1 (by rw [e])
    · omega
  have hs' := hg.size
  refine ⟨j.t.grown hg hr, j.r.touch T (fun e => by have := hr _ e; omega) (fun h0 b o hab e => by have := j.lb h0 b o hab; have := hr _ e; omega), ?_, fun i hi => ?_, j.lR, j.lb⟩
  · rw [List.length_append, hk, List.map_append]
    simpa using hown
  · by_cases h : i < ss.length
    · rw [List.getElem?_append_left h]
      have h1 := (j.ac i h).touch T (fun b hb => hb.2.2)
      have h2 := hsz i h
      exact ⟨h1.len, h1.g, h1.n8, fun b o e => ⟨(h1.pa b o e).1, by have := h2.pa b o e; omega, hn b (h1.pa b o e).2.2 (h2.pa b o e)⟩, fun m hm => ⟨fun b o e => ⟨((h1.pf m hm).1 b o e).1, by have := (h2.pf m hm).1 b o e; omega, hn b ((h1.pf m hm).1 b o e).2.2 ((h2.pf m hm).1 b o e)⟩, fun b o e => ⟨((h1.pf m hm).2 b o e).1, by have := (h2.pf m hm).2 b o e; omega, hn b ((h1.pf m hm).2 b o e).2.2 ((h2.pf m hm).2 b o e)⟩⟩⟩
    · have : i = ss.length := by rw [List.length_append] at hi; simp at hi; omega
      subst this
      have e : (ss ++ [s])[ss.length]?.getD noL = s := by simp
      rw [e]
      exact (hs.touch T (fun b hb => hb.2.2)).mono (fun b hb => ⟨hb.1, by omega, hn b hb.2.2 hb.2.1⟩)
end

theorem JAs.q {w W : World} {R : Nat} {a : Option Addr} {n cap : Nat} {bs : List Int} {q : Int} {v : Value} {ss : List L2V} (j : JAs w R a n cap bs q v ss W) : JBs w R a n cap bs q v ss W := ⟨j.t, j.r, j.o, fun i hi => (j.ac i hi).q, j.lR, j.lb⟩
theorem getL_set {ss : List L2V} {i : Nat} {s : L2V} (hk : 0 < ss.length) : (ss.set 0 s)[i]?.getD noL = if i = 0 then s else ss[i]?.getD noL := by
  by_cases h : i = 0
  · subst h; rw [List.getElem?_set_self hk]; rfl
  · rw [List.getElem?_set_ne (fun e => h e.symm), if_neg h]
/-- The first act is put another in place of. -/
theorem JBs.set0 {w W : World} {R : Nat} {a : Option Addr} {n cap : Nat} {bs : List Int} {q : Int} {g N c : Nat} {ss : List L2V} {s : L2V} (j : JBs w R a n cap bs q (.slice (some ⟨g, 0, none⟩) N c) ss W) (hN : ss.length = N) (h0 : 0 < ss.length) (hs : AcQ (fun b => w.heap.size ≤ b ∧ b < W.heap.size ∧ g ≠ b) W s) : JBs w R a n cap bs q (.slice (some ⟨g, 0, none⟩) N c) (ss.set 0 s) (W.setCell ⟨g, 0, none⟩ s.v) := by
  have hg := j.o.lt g rfl
  have lR := j.lR
  have T : Touch (fun x => x = g) W (W.setCell ⟨g, 0, none⟩ s.v) := Touch.setCell (S := fun x => x = g) (Touch.refl _ _) rfl _
  have o := j.o
  rw [hN] at o
  have hsz : (W.setCell ⟨g, 0, none⟩ s.v).heap.size = W.heap.size := size_setCell _ _ _
  refine ⟨j.t.setNewF hg.1 _ _, j.r.touch T (by omega) (fun h0 b o e h => by have := j.lb h0 b o e; omega), ?_, fun i hi => ?_, j.lR, j.lb⟩
  · rw [List.length_set, hN, List.map_set]
    exact (World.ownsRow.stored o 0 s.v).1
  · rw [List.length_set] at hi
    rw [getL_set h0]
    by_cases h : i = 0
    · rw [if_pos h]
      exact (hs.touch T (fun b hb e => hb.2.2 e.symm)).mono (fun b hb => ⟨hb.1, by omega, fun e => hb.2.2 (by simpa [Value.ownBlock] using e)⟩)
    · rw [if_neg h]
      exact ((j.ac i hi).touch T (fun b hb e => hb.2.2 (by rw [e]; rfl))).mono (fun b hb => ⟨hb.1, by omega, hb.2.2⟩)
theorem JBs.some {w W : World} {R : Nat} {a : Option Addr} {n cap : Nat} {bs : List Int} {q : Int} {ad : Option Addr} {N c : Nat} {ss : List L2V} (j : JBs w R a n cap bs q (.slice ad N c) ss W) (h0 : 0 < ss.length) : ∃ g, ad = some ⟨g, 0, none⟩ := by
  rcases j.o.2 with ⟨_, h⟩ | ⟨g, cap', cur, hv, _⟩
  · omega
  · simp only [Value.slice.injEq] at hv
    exact ⟨g, hv.1⟩

set_option maxHeartbeats 6400000 in
theorem anyacts_f (R : Nat) (a : Option Addr) (n cap : Nat) (bs : List Int) (p M : Int) (w : World) (rd : Rd w R a n cap bs p) (hp : 0 ≤ p) (hp1 : p ≤ 5000000) (hM : 1 ≤ M) (hM1 : M ≤ 1000) (ha : 0 < n → ∀ b o, a = some ⟨b, o, none⟩ → b < w.heap.size) :
    Calls Tryd.prog 96 #[.pointer (some ⟨R, 0, none⟩), .int .i64 M] w fun e w' => ∃ ad N c ss q, e = .returned (.slice ad N c) ∧ JBs w R a n cap bs q (.slice ad N c) ss w' ∧ ss.length = N ∧ N ≤ 5 ∧ p ≤ q ∧ q ≤ p + 500 := by
  have hRl := rd.c.lt
  obtain ⟨i0, hi, hz0, hz1, hz2⟩ := info_parts Tryd.infoLns
  go_enter Tryd.func96, Tryd.ntmps96
  go_wp2_with fail
  refine (acts_f R a n cap bs p _ rd hp (by omega) ha).mono ?_
  rintro e w1 ⟨ad, N, c, ss, q, rfl, j', hN, hN1, hN4, q0, q1⟩
  have j := j'.q
  have HN : Hid (ss.length = N) := hN
  clear hN rd j'
  obtain ⟨g, rfl⟩ := j.some (by rw [HN.out]; omega)
  go_wp2_with fail
  refine (pick_any R a n cap bs (q) M _ j.r (by omega) (by omega) (by omega) (by omega)).mono ?_
  rintro e w2 ⟨ru, hu0, hu1, rfl, t5, R5⟩
  obtain ⟨u, rfl⟩ := Int.eq_ofNat_of_zero_le hu0
  replace j := j.pick t5 R5
  clear t5 R5 hu0
  by_cases hu : 0 < u
  · have hu' : (0 : Int) < (u : Int) := by omega
    go_wp2
    go_ret
    exact ⟨_, N, c, ss, _, rfl, j, HN.out, by omega, by omega, by omega⟩
  have hu' : ¬ (0 : Int) < (u : Int) := by omega
  go_wp2_with fail
  refine (pick_any R a n cap bs (q + 1) 3 _ j.r (by omega) (by omega) (by omega) (by omega)).mono ?_
  rintro e w3 ⟨rs, hs0, hs1, rfl, t5, R5⟩
  obtain ⟨s, rfl⟩ := Int.eq_ofNat_of_zero_le hs0
  replace j := j.pick t5 R5
  clear t5 R5 hs0
  rcases (show s = 0 ∨ s = 1 ∨ s = 2 from by omega) with rfl | rfl | rfl
  · have hgW := (j.o.lt g rfl).2
    have hlo := j.t.size
    have hN' : (0 : Int) < (N : Int) := by omega
    go_wp2_with fail
    refine (any_f R a n cap bs (q + 1 + 1) 1 _ j.r (by omega) (by omega) (by omega) (by omega) j.r.ha).mono ?_
    rintro e w4 ⟨ad4, N4, c4, ls4, q4, rfl, jl, hl4, hn8, y0, y1⟩
    have sa := jl.actq hl4 hn8
    replace j := j.pick jl.t jl.r
    clear jl
    have o := j.o
    rw [HN.out] at o
    have cc := o.cellAt 0 (by omega)
    rw [List.getElem?_map, List.getElem?_eq_getElem (by rw [HN.out]; omega)] at cc
    have ff : w4.frozen? ⟨g, 0, none⟩ = false := o.frozenAt _
    obtain ⟨s0, hs0⟩ : ∃ s0 : L2V, s0 = ss[0]'(by rw [HN.out]; omega) := ⟨_, rfl⟩
    rw [← hs0] at cc
    have cc' : w4.cell? ⟨g, 0, none⟩ = some (.slice s0.a s0.n s0.cap) := cc
    clear cc o hs0
    have j9 := j.set0 (s := ⟨ad4, N4, c4, ls4⟩) HN.out (by rw [HN.out]; omega) (sa.mono (fun b hb => ⟨by omega, hb.2, by omega⟩))
    clear j sa
    go_wp2
    go_ret
    exact ⟨_, N, c, _, _, rfl, j9, by rw [List.length_set]; exact HN.out, by omega, by omega, by omega⟩
  · have hlo := j.t.size
    have al := (Below.refl w3.heap.size w3).alloc (Nat.le_refl _) (.cells #[] 43)
    have o0 := World.ownsRow_lit (base := w.heap.size) (e := 43) (size := 1) w3 #[] 0 hlo (by unfold maxLen; omega) rfl
    have j9 : JBs w R a n cap bs (q + 1 + 1) (.slice (some ⟨w3.heap.size, 0, none⟩) 0 0) [] (w3.alloc (.cells #[] 43)) := ⟨j.t.trans (Touch.of al), j.r.below al, o0, fun i hi => by simp at hi, j.lR, j.lb⟩
    clear al o0 j
    go_wp2
    go_ret
    exact ⟨_, 0, 0, _, _, rfl, j9, rfl, by omega, by omega, by omega⟩
  · go_wp2_with fail
    go_loopw [5] (fun v wr => ∃ (g' N' c' : Nat) (ss' : List L2V) (q' : Int), v = .slice (some ⟨g', 0, none⟩) N' c' ∧ N ≤ N' ∧ N' ≤ 5 ∧ ss'.length = N' ∧ q' = q + 1 + 1 ∧ JBs w R a n cap bs q' v ss' wr) (fun v _ => 8 - (lenOf v))
    case atStart => exact ⟨g, N, c, ss, _, rfl, by omega, by omega, HN.out, rfl, j⟩
    case round =>
      clear j
      obtain ⟨g', N', c', ss', q', rfl, hNN, hN7, hL, hq', j⟩ := hrel
      have HL : Hid (ss'.length = N') := hL
      clear hL
      by_cases h7 : N' ≤ 4
      · have h7' : (N' : Int) ≤ 4 := by omega
        have hkN2 : (0 : Int) < (N' : Int) := by omega
        have hkl : 0 < ss'.length := by rw [HL.out]; omega
        have o := j.o
        rw [HL.out] at o
        have cc := o.cellAt 0 (by omega)
        rw [List.getElem?_map, List.getElem?_eq_getElem hkl] at cc
        obtain ⟨s0, hs0⟩ : ∃ s0 : L2V, s0 = ss'[0]?.getD noL := ⟨_, rfl⟩
        have es : ss'[0] = s0 := by rw [hs0, List.getElem?_eq_getElem hkl]; rfl
        rw [es] at cc
        have cc' : wr.cell? ⟨g', 0, none⟩ = some (.slice s0.a s0.n s0.cap) := cc
        clear cc o es
        have hsa := j.ac 0 hkl
        rw [← hs0] at hsa
        clear hs0
        have SZ : ∀ i, i < ss'.length → AcQ (fun b => b < wr.heap.size) (wr.alloc (.cells #[.slice s0.a s0.n s0.cap] 43)) (ss'[i]?.getD noL) := fun i hi => ((j.ac i hi).mono (fun b hb => hb.2.1)).below ((Below.refl wr.heap.size wr).alloc (Nat.le_refl _) _)
        have al := (Below.refl wr.heap.size wr).alloc (Nat.le_refl _) (.cells #[.slice s0.a s0.n s0.cap] 43)
        have ja := j.below al
        replace hsa := hsa.below al
        have hszA := ja.t.size
        clear al j
        go_wp2_with (at_builtin; refine wpList_append_lies _ rfl (.tmp 18) (.tmp 22) 53 rfl w.heap.size 43 i0 _ 1 24 Tryd.underlying53 hi hz0 hz1 hz2 rfl (by omega) (.slice (some ⟨g', 0, none⟩) N' c') N' (ss'.map L2V.v) (by rfl) (by have h := ja.o; rw [HL.out] at h; exact h) ⟨wr.heap.size, 0, none⟩ 1 1 [.slice s0.a s0.n s0.cap] (by rfl) (by rfl) (World.news_of_block (cs := #[.slice s0.a s0.n s0.cap]) (t := 43) (fr := (0, 0)) (heap_alloc_new wr _)) (by simp [Value.oneCell']) (by omega) (by unfold maxLen; omega) (by omega) hszA (wr.heap.size + 1) (by rw [World.size_alloc]) ?_)
        intro g9 cp9 w9 hown hgrow hat9 _
        have jn := ja.app (s := s0) (H := wr.heap.size) HL.out hsa (by rw [World.size_alloc]; omega) SZ hown hgrow (by rcases hat9 with h | h; exact .inl h; exact .inr (by omega))
        clear hown hgrow ja hsa SZ cc'
        go_wp2
        go_roundw
        case rel => exact ⟨g9, N' + 1, cp9, ss' ++ [s0], _, rfl, by omega, by omega, by rw [List.length_append, HL.out]; rfl, hq', jn⟩
        case measure => simp [lenOf]; omega
      · have h7' : ¬ (N' : Int) ≤ 4 := by omega
        go_wp2
        go_ret
        exact ⟨_, N', c', rfl, by first | exact ⟨ss', ⟨q', j, by first | exact ⟨HL.out, by omega, by omega, by omega⟩ | omega⟩⟩ | (refine ⟨ss', ?_⟩; simp [HL.out]; exact ⟨q', j, by omega⟩) | (refine ⟨ss', ⟨q', j, ?_⟩, HL.out, ?_⟩ <;> omega)⟩

end Go.Proofs.YtfkcfjkojfnfnaaDoor
