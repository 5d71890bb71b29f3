/-
  Slices of lines that grow while they are drawn.
-/
import Derived.Test.YtfkcfjkojfnfnaaGreatDoorDrLn
import Derived.Deep.AppendLies
namespace Go.Proofs.YtfkcfjkojfnfnaaGreatDoor
open Go.RowKit
set_option linter.unusedVariables false
set_option maxRecDepth 100000

theorem flatL_at : ∀ (ls : List LV) (i : Nat), i < ls.length → ∀ r, r < 6 → (ls.flatMap LV.cs)[i * 6 + r]? = (ls[i]?.getD noLV).cs[r]? := by
  intro ls
  induction ls with
  | nil => intro i hi; simp at hi
  | cons g gs ih =>
    intro i hi r hr
    rcases i with _ | i
    · simp only [List.flatMap_cons, Nat.zero_mul, Nat.zero_add, List.getElem?_cons_zero, Option.getD_some]
      rw [List.getElem?_append_left (by simp [LV.cs]; omega)]
    · simp only [List.flatMap_cons, List.getElem?_cons_succ]
      rw [List.getElem?_append_right (by simp [LV.cs]; omega)]
      have e : (i + 1) * 6 + r - g.cs.length = i * 6 + r := by simp [LV.cs]; omega
      rw [e]
      exact ih i (by simpa using hi) r hr
theorem flatL_len (ls : List LV) : (ls.flatMap LV.cs).length = ls.length * 6 := by
  induction ls with
  | nil => rfl
  | cons g gs ih => rw [List.flatMap_cons, List.length_append, ih]; simp [LV.cs]; omega
theorem flatL_one (ls : List LV) : ∀ u ∈ ls.flatMap LV.cs, u.oneCell' = true := by
  intro u hu
  obtain ⟨l, _, h⟩ := List.mem_flatMap.1 hu
  simp only [LV.cs, List.mem_cons, List.not_mem_nil, or_false] at h
  rcases h with rfl | rfl | rfl | rfl | rfl | rfl <;> rfl
theorem linesG_own {W : World} {base N cap : Nat} {ad : Option Addr} {ls : List LV} (h : W.ownsRow base 36 6 (.slice ad N cap) N (ls.flatMap LV.cs)) (hl : ls.length = N) (ha : ∀ i, i < ls.length → (ls[i]?.getD noLV).f.At W) : LinesG W ad ls := by
  intro i hi
  rcases h.2 with ⟨hv, h0⟩ | ⟨g, cap', cur, hv, _⟩
  · omega
  · simp only [Value.slice.injEq, true_and] at hv
    obtain ⟨rfl, rfl⟩ := hv
    refine ⟨g, 0, rfl, fun r hr => ?_, ha i hi⟩
    have := h.cellAt (i * 6 + r) (by omega)
    rw [flatL_at ls i hi r hr] at this
    rw [← this, Nat.zero_add]

theorem own_slice {W : World} {base m s : Nat} {e : TypeId} {v : Value} {xs : List Value} (h : W.ownsRow base e s v m xs) : ∃ ad c, v = .slice ad m c := by
  rcases h.2 with ⟨hv, h0⟩ | ⟨g, cap, cur, hv, _⟩
  · exact ⟨none, 0, by rw [hv, h0]⟩
  · exact ⟨_, _, hv⟩
/-- An act that is being drawn. -/
structure JL (wL : World) (R : Nat) (a : Option Addr) (n cap : Nat) (bs : List Int) (q : Int) (v : Value) (ls : List LV) (W : World) : Prop where
  t : Touch (fun x => x = R) wL W
  r : Rd W R a n cap bs q
  o : W.ownsRow wL.heap.size 36 6 v ls.length (ls.flatMap LV.cs)
  at' : ∀ i, i < ls.length → (ls[i]?.getD noLV).f.At W
  na : ∀ i, i < ls.length → ∀ b o, (ls[i]?.getD noLV).f.a = some ⟨b, o, none⟩ → wL.heap.size ≤ b ∧ b < W.heap.size ∧ v.ownBlock ≠ some b
  nc : ∀ i, i < ls.length → ∀ b o, (ls[i]?.getD noLV).f.c = some ⟨b, o, none⟩ → wL.heap.size ≤ b ∧ b < W.heap.size ∧ v.ownBlock ≠ some b
  lR : R < wL.heap.size
  lb : 0 < n → ∀ b o, a = some ⟨b, o, none⟩ → b < wL.heap.size
section
variable {wL W W' : World} {R : Nat} {a : Option Addr} {n cap : Nat} {bs : List Int} {q : Int} {v : Value} {ls : List LV}
theorem own_belowL {base : Nat} {e : TypeId} {s : Nat} {m : Nat} {xs : List Value} (h : W.ownsRow base e s v m xs) (b : Below W.heap.size W W') : W'.ownsRow base e s v m xs := by
  obtain ⟨h1, h2⟩ := h
  refine ⟨h1, ?_⟩
  rcases h2 with h2 | ⟨g, cap, cur, hv, hg, hh, r⟩
  · exact Or.inl h2
  · exact Or.inr ⟨g, cap, cur, hv, hg, by rw [b.block g (lt_of_block hh)]; exact hh, r⟩
theorem JL.below (j : JL wL R a n cap bs q v ls W) (b : Below W.heap.size W W') : JL wL R a n cap bs q v ls W' :=
  ⟨j.t.trans (Touch.of b), j.r.below b, own_belowL j.o b, fun i hi => (j.at' i hi).below b, fun i hi x o e => by have h := j.na i hi x o e; have := b.size; exact ⟨h.1, by omega, h.2.2⟩, fun i hi x o e => by have h := j.nc i hi x o e; have := b.size; exact ⟨h.1, by omega, h.2.2⟩, j.lR, j.lb⟩
theorem FV.At.off {S : Nat → Prop} {f : FV} (h : f.At W) (t : Touch S W W') (h1 : ∀ b o, f.a = some ⟨b, o, none⟩ → ¬ S b) (h2 : ∀ b o, f.c = some ⟨b, o, none⟩ → ¬ S b) : f.At W' := ⟨h.C.off t h1, h.D.off t h2, h.hn, h.hm⟩
theorem JL.pick {q' : Int} (j : JL wL R a n cap bs q v ls W) (t : Touch (fun x => x = R) W W') (r : Rd W' R a n cap bs q') : JL wL R a n cap bs q' v ls W' := by
  have lR := j.lR
  exact ⟨j.t.trans t, r, ownsRow_touch j.o t (fun k h => by omega), fun i hi => (j.at' i hi).off t (fun b o e h => by have := (j.na i hi b o e).1; omega) (fun b o e h => by have := (j.nc i hi b o e).1; omega), fun i hi x o e => by have h := j.na i hi x o e; have := t.size; exact ⟨h.1, by omega, h.2.2⟩, fun i hi x o e => by have h := j.nc i hi x o e; have := t.size; exact ⟨h.1, by omega, h.2.2⟩, j.lR, j.lb⟩
theorem JL.g {ad : Option Addr} {N c : Nat} (j : JL wL R a n cap bs q (.slice ad N c) ls W) (hl : ls.length = N) : LinesG W ad ls := linesG_own (by have h := j.o; rw [hl] at h; exact h) hl j.at'
/-- A line is put behind the others. -/
theorem JL.app {l : LV} {g c k : Nat} {H : Nat} (j : JL wL R a n cap bs q v ls W) (hk : ls.length = k) (hl : l.f.At W) (la : ∀ b o, l.f.a = some ⟨b, o, none⟩ → wL.heap.size ≤ b ∧ b < H ∧ v.ownBlock ≠ some b) (lc : ∀ b o, l.f.c = some ⟨b, o, none⟩ → wL.heap.size ≤ b ∧ b < H ∧ v.ownBlock ≠ some b) (hH : H ≤ W.heap.size) (hsz : ∀ i, i < ls.length → (∀ b o, (ls[i]?.getD noLV).f.a = some ⟨b, o, none⟩ → b < H) ∧ (∀ b o, (ls[i]?.getD noLV).f.c = some ⟨b, o, none⟩ → b < H))
    (hown : W'.ownsRow wL.heap.size 36 6 (.slice (some ⟨g, 0, none⟩) (k + 1) c) (k + 1) (ls.flatMap LV.cs ++ l.cs)) (hg : W.grownBy W' v.ownBlock) (hat : v.ownBlock = some g ∨ H ≤ g) : JL wL R a n cap bs q (.slice (some ⟨g, 0, none⟩) (k + 1) c) (ls ++ [l]) W' := by
  have hr : ∀ x, v.ownBlock = some x → wL.heap.size ≤ x := fun x hx => (j.o.lt x hx).1
  have lR := j.lR
  have T : Touch (fun x => v.ownBlock = some x) W W' := ⟨hg.os, hg.tape, hg.output, hg.size, fun x hx hs => hg.block x hx (fun e => hs e.symm)⟩
  have hn : ∀ b, v.ownBlock ≠ some b → b < H → (Value.slice (some ⟨g, 0, none⟩) (k + 1) c).ownBlock ≠ some b := fun b h1 h2 e => by
    simp only [Value.ownBlock, Option.some.injEq] at e
    rcases hat with h | h
    · rw [h] at h1; exact h1 (by rw [e])
    · omega
  have key : ∀ i, i < (ls ++ [l]).length → (i < ls.length ∧ (ls ++ [l])[i]?.getD noLV = ls[i]?.getD noLV) ∨ (ls ++ [l])[i]?.getD noLV = l := fun i hi => by
    by_cases h : i < ls.length
    · left; exact ⟨h, by rw [List.getElem?_append_left h]⟩
    · right
      have : i = ls.length := by rw [List.length_append] at hi; simp at hi; omega
      subst this
      simp
  have hs := hg.size
  refine ⟨j.t.grown hg hr, j.r.touch T (fun e => by have := hr _ e; omega) (fun h0 b o hab e => by have := j.lb h0 b o hab; have := hr _ e; omega), ?_, fun i hi => ?_, fun i hi b o e => ?_, fun i hi b o e => ?_, j.lR, j.lb⟩
  · rw [List.length_append, hk, List.flatMap_append]
    simpa using hown
  · rcases key i hi with ⟨h, e⟩ | e
    · rw [e]; exact (j.at' i h).off T (fun b o e h' => (j.na i h b o e).2.2 h') (fun b o e h' => (j.nc i h b o e).2.2 h')
    · rw [e]; exact hl.off T (fun b o e h' => (la b o e).2.2 h') (fun b o e h' => (lc b o e).2.2 h')
  · rcases key i hi with ⟨h, e'⟩ | e'
    · rw [e'] at e; have h3 := j.na i h b o e; exact ⟨h3.1, by omega, hn b h3.2.2 ((hsz i h).1 b o e)⟩
    · rw [e'] at e; have h3 := la b o e; exact ⟨h3.1, by omega, hn b h3.2.2 h3.2.1⟩
  · rcases key i hi with ⟨h, e'⟩ | e'
    · rw [e'] at e; have h3 := j.nc i h b o e; exact ⟨h3.1, by omega, hn b h3.2.2 ((hsz i h).2 b o e)⟩
    · rw [e'] at e; have h3 := lc b o e; exact ⟨h3.1, by omega, hn b h3.2.2 h3.2.1⟩
end

theorem newsL {W : World} {base g cap k : Nat} {xs : List Value} (h : W.ownsRow base 36 6 (.slice (some ⟨g, 0, none⟩) k cap) k xs) : ∀ j u, xs[j]? = some u → W.cell? ((⟨g, 0, none⟩ : Addr).add j) = some u := fun j u hu => by
  have hj : j < k * 6 := by
    have h1 := h.1
    have : j < xs.length := by
      rcases Nat.lt_or_ge j xs.length with h | h
      · exact h
      · rw [List.getElem?_eq_none h] at hu; cases hu
    omega
  have := h.cellAt j hj
  rw [hu] at this
  have hadd : (⟨g, 0, none⟩ : Addr).add j = ⟨g, j, none⟩ := by
    by_cases h0 : j = 0
    · subst h0; simp [Addr.add]
    · simp [Addr.add, h0]
  rw [hadd]; exact this

theorem Tryz.infoLn : (Tryz.prog.info? 36).map (fun i => (i.zero, i.size, i.bytes)) = some (some (.agg #[.int .i64 0, .int .i64 0, .int .i64 0, .slice none 0 0, .slice none 0 0, .int .i64 0]), 6, 80) := by kernel_rfl

set_option maxHeartbeats 1600000 in
/-- Lines are copied behind an empty literal. -/
theorem wp_copyL {o : Oper} {a : Act} {K : Act → World → Prop} {Q : Exit → Act → World → Prop} {W : World} (s x : Operand) (ho : o.op = .call { callee := .builtin .append, args := #[s, x], argTypes := #[98, 98] }) (base base' L k : Nat) (ad : Option Addr) (cap : Nat) (ls : List LV)
    (hs : a.eval s = .slice (some ⟨L, 0, none⟩) 0 0) (hown : W.ownsRow base 36 6 (.slice (some ⟨L, 0, none⟩) 0 0) 0 []) (hx : a.eval x = .slice ad k cap) (hb : W.ownsRow base' 36 6 (.slice ad k cap) k (ls.flatMap LV.cs)) (hl : ls.length = k) (hn : k ≤ 1000) (hbase : base ≤ W.heap.size)
    (h : ∀ v' W1, Below base W W1 → Touch (fun z => z = L) W W1 → W1.ownsRow base 36 6 v' k (ls.flatMap LV.cs) → (∀ B, v'.ownBlock = some B → B = L ∨ W.heap.size ≤ B) → K (a.put o.dst v') W1) : o.wp Tryz.prog a W K Q := by
  by_cases h0 : 0 < k
  · obtain ⟨i0, hi, hz0, hz1, hz2⟩ := info_parts Tryz.infoLn
    rcases hb.2 with ⟨_, h1⟩ | ⟨g, cap', cur, hv, _⟩
    · omega
    simp only [Value.slice.injEq, true_and] at hv
    obtain ⟨rfl, rfl⟩ := hv
    refine wp_append_lies _ s x 98 ho base 36 i0 _ 6 80 Tryz.underlying98 hi hz0 hz1 hz2 rfl (by omega) _ 0 [] hs hown ⟨g, 0, none⟩ k cap (ls.flatMap LV.cs) hx (by rw [flatL_len, hl]) (newsL hb) (flatL_one ls) h0 (by unfold maxLen; omega) (by omega) hbase _ rfl ?_
    intro g' cp W1 ho1 hg hat hlt
    have hL : ∀ z, (Value.slice (some ⟨L, 0, none⟩) 0 0).ownBlock = some z → base ≤ z := fun z hz => (hown.lt z hz).1
    simp only [Nat.zero_add] at ho1 ⊢
    refine h _ W1 ((Below.refl base W).grown hg hbase hL) ⟨hg.os, hg.tape, hg.output, hg.size, fun z hz hn => hg.block z hz (fun e => hn (by simpa [Value.ownBlock] using e))⟩ (by simpa using ho1) (fun B hB => ?_)
    simp only [Value.ownBlock, Option.some.injEq] at hB hat
    omega
  · obtain rfl : k = 0 := by omega
    have hls : ls = [] := List.eq_nil_of_length_eq_zero hl
    subst hls
    obtain ⟨dst, op, ty, pos, after, guard⟩ := o
    dsimp only at ho
    subst ho
    unfold Oper.wp execOp
    simp only [resolve, invoke, builtin, Sem.run_bind, Sem.run_pure, Result.andThen_ok, List.map_toArray, List.map_cons, List.map_nil, hs, hx]
    cases ad
    · go_simp
      exact h _ W (Below.refl _ _) (Touch.refl _ _) hown (fun B hB => by simp only [Value.ownBlock, Option.some.injEq] at hB; omega)
    · go_simp
      exact h _ W (Below.refl _ _) (Touch.refl _ _) hown (fun B hB => by simp only [Value.ownBlock, Option.some.injEq] at hB; omega)

end Go.Proofs.YtfkcfjkojfnfnaaGreatDoor
