/-
  A site at its beginning, as both texts make it. No condition.
-/
import Derived.Test.YthhfjodggmmcoaaSitB
import Derived.Test.YthhfjodggmmcoaaPlanW
import Derived.Test.YthhfjodggmmcoaaKeyed
import Derived.Deep.AppendLies
namespace Go.Proofs.Ythhfjodggmmcoaa
open Go.RowKit Go.Deep
set_option linter.unusedVariables false
set_option maxRecDepth 100000

/-- 'make', at the operation. -/
theorem wp_make_own {P : Program} {w : World} {o : Oper} {a : Act} {K : Act → World → Prop} {Q : Exit → Act → World → Prop} (l c : Operand) (t : TypeId) (hop : o.op = Op.makeSlice t l c)
    (base : Nat) (e : TypeId) (i : TypeInfo) (z : Value) (size : Nat) (h1 : P.underlying t = some (.slice e)) (h2 : P.info? e = some i) (h3 : i.zero = some z) (h4 : i.size = size)
    (L C : Int) (n : Nat) (hl : a.eval l = .int .i64 L) (hc : a.eval c = .int .i64 C) (hL : L = (n : Int)) (hC : C = (n : Int)) (b2 : i.bytes * n ≤ 281474976710656) (b3 : n ≤ maxLen) (b4 : base ≤ w.heap.size)
    (hK : ∀ w', w'.ownsRow base e size (.slice (some ⟨w.heap.size, 0, none⟩) n n) n (madeCells z.cells (n * size)).toList → w.grownBy w' none → K (a.put o.dst (.slice (some ⟨w.heap.size, 0, none⟩) n n)) w') : o.wp P a w K Q := by
  obtain ⟨w', hrun, r1, r2⟩ := run_make_full (P := P) w base t e i z size h1 h2 h3 h4 .i64 .i64 n b2 b3 b4
  subst hL
  subst hC
  unfold Oper.wp
  simp [execOp, hop, hl, hc, hrun, Result.andThen]
  exact hK w' r1 r2
section
variable {P : Program} {ops : Array Oper} {Q : Exit → Act → World → Prop} {md : Region.Mode} {S0 S : World → Prop} {s : Nat}
/-- Three operations may come up. -/
theorem wpAnyE_three {i j k : Nat} {oi oj ok : Oper} {fuel : Nat} {listed : Array Bool} {a : Act} {w : World} (hr : Region.ready md ops listed = [i, j, k]) (hi : ops[i]? = some oi) (hj : ops[j]? = some oj) (hk : ops[k]? = some ok)
    (h1 : ∀ K' : Act → World → Prop, Shut (∀ a w, (S0 w ∧ ((listed.setIfInBounds i true).getD s true = false → S w)) → wpAnyE P md ops Q S0 S s fuel (listed.setIfInBounds i true) a w → K' a w) → if Region.wanted oi (yielded ops a.tmps) = true then Oper.wp P oi a w K' Q else K' (a.put oi.dst undef) w)
    (h2 : ∀ K' : Act → World → Prop, Shut (∀ a w, (S0 w ∧ ((listed.setIfInBounds j true).getD s true = false → S w)) → wpAnyE P md ops Q S0 S s fuel (listed.setIfInBounds j true) a w → K' a w) → if Region.wanted oj (yielded ops a.tmps) = true then Oper.wp P oj a w K' Q else K' (a.put oj.dst undef) w)
    (h3 : ∀ K' : Act → World → Prop, Shut (∀ a w, (S0 w ∧ ((listed.setIfInBounds k true).getD s true = false → S w)) → wpAnyE P md ops Q S0 S s fuel (listed.setIfInBounds k true) a w → K' a w) → if Region.wanted ok (yielded ops a.tmps) = true then Oper.wp P ok a w K' Q else K' (a.put ok.dst undef) w) : wpAnyE P md ops Q S0 S s (fuel + 1) listed a w := by
  refine ⟨fun h0 => (by rw [hr] at h0; cases h0), fun z hz => ?_⟩
  rw [hr] at hz
  rcases List.mem_cons.1 hz with rfl | hz
  · exact wpOp_step hi (fun K' hK => h1 K' (fun a w hS hW => hK a w ⟨hS, hW⟩))
  · rcases List.mem_cons.1 hz with rfl | hz
    · exact wpOp_step hj (fun K' hK => h2 K' (fun a w hS hW => hK a w ⟨hS, hW⟩))
    · rcases List.mem_cons.1 hz with rfl | hz
      · exact wpOp_step hk (fun K' hK => h3 K' (fun a w hS hW => hK a w ⟨hS, hW⟩))
      · cases hz
end

theorem own_x {W : World} {base g cap n : Nat} {xs : List Value} {D : List Int} (h : W.ownsRow base 3 1 (.slice (some ⟨g, 0, none⟩) n cap) n xs) (hx : xs = D.map (Value.int .i64)) (hl : D.length = n) : OwnX W (some ⟨g, 0, none⟩) g n D ∧ base ≤ g := by
  subst hx
  rcases h.2 with ⟨h', _⟩ | ⟨g', cap', cur, h', hb, hg, _, _, hcs, htake⟩
  · cases h'
  · simp only [Value.slice.injEq, Option.some.injEq, Addr.mk.injEq, and_true, true_and] at h'
    obtain ⟨rfl, rfl⟩ := h'
    refine ⟨⟨hl, .inr ⟨rfl, cur.toList, by unfold Cel; simpa using hg, fun i hi => ?_⟩⟩, hb⟩
    have h1 : (cur.toList.take (n * 1))[i]? = (D.map (Value.int .i64))[i]? := by rw [htake]
    rw [List.getElem?_take, if_pos (by omega)] at h1
    rw [h1, List.getElem?_map, List.getElem?_eq_getElem (by omega)]
    simp
theorem own_d {W : World} {base g cap n : Nat} {xs : List Value} (h : W.ownsRow base 123 3 (.slice (some ⟨g, 0, none⟩) n cap) n xs) (hx : ∀ i, i < n → xs[i * 3]? = some (.int .i64 0) ∧ xs[i * 3 + 1]? = some (.int .i64 0) ∧ xs[i * 3 + 2]? = some (.slice none 0 0)) : DX W (some ⟨g, 0, none⟩) g n (fun _ => (0, 0)) ∧ base ≤ g := by
  rcases h.2 with ⟨h', _⟩ | ⟨g', cap', cur, h', hb, hg, _, _, hcs, htake⟩
  · cases h'
  · simp only [Value.slice.injEq, Option.some.injEq, Addr.mk.injEq, and_true, true_and] at h'
    obtain ⟨rfl, rfl⟩ := h'
    refine ⟨.inr ⟨rfl, cur.toList, by unfold Cel; simpa using hg, fun i hi => ?_⟩, hb⟩
    have h1 : ∀ j, j < n * 3 → cur.toList[j]? = xs[j]? := fun j hj => by rw [← htake, List.getElem?_take, if_pos hj]
    obtain ⟨x0, x1, x2⟩ := hx i hi
    exact ⟨(h1 _ (by omega)).trans x0, (h1 _ (by omega)).trans x1, (h1 _ (by omega)).trans x2⟩
theorem ownB {W W' : World} {base : Nat} {e : TypeId} {s : Nat} {v : Value} {n : Nat} {xs : List Value} (h : W.ownsRow base e s v n xs) (b : Below W.heap.size W W') : W'.ownsRow base e s v n xs := by
  refine ⟨h.1, ?_⟩
  rcases h.2 with h2 | ⟨g, cap, cur, hv, hg, hh, r⟩
  · exact Or.inl h2
  · exact Or.inr ⟨g, cap, cur, hv, hg, by rw [b.block g (lt_of_block hh)]; exact hh, r⟩
def zD : List Value := [.int .i64 0, .int .i64 0, .slice none 0 0]
theorem zD_at (n : Nat) : ∀ i, i < n → ((List.replicate n zD).flatten)[i * 3]? = some (.int .i64 0) ∧ ((List.replicate n zD).flatten)[i * 3 + 1]? = some (.int .i64 0) ∧ ((List.replicate n zD).flatten)[i * 3 + 2]? = some (.slice none 0 0) := by
  induction n with
  | zero => intro i hi; omega
  | succ n ih =>
    intro i hi
    rw [List.replicate_succ, List.flatten_cons]
    cases i with
    | zero => exact ⟨rfl, rfl, rfl⟩
    | succ i =>
      have hz : zD.length = 3 := rfl
      rw [List.getElem?_append_right (by rw [hz]; omega), List.getElem?_append_right (by rw [hz]; omega), List.getElem?_append_right (by rw [hz]; omega), hz, show (i + 1) * 3 - 3 = i * 3 by omega, show (i + 1) * 3 + 1 - 3 = i * 3 + 1 by omega, show (i + 1) * 3 + 2 - 3 = i * 3 + 2 by omega]
      exact ih i (by omega)
theorem madeD (n : Nat) : ∀ i, i < n → (madeCells (Value.agg #[.int .i64 0, .int .i64 0, .slice none 0 0]).cells (n * 3)).toList[i * 3]? = some (.int .i64 0) ∧ (madeCells (Value.agg #[.int .i64 0, .int .i64 0, .slice none 0 0]).cells (n * 3)).toList[i * 3 + 1]? = some (.int .i64 0) ∧ (madeCells (Value.agg #[.int .i64 0, .int .i64 0, .slice none 0 0]).cells (n * 3)).toList[i * 3 + 2]? = some (.slice none 0 0) := by
  intro i hi
  have hc : (Value.agg #[.int .i64 0, .int .i64 0, .slice none 0 0]).cells = #[.int .i64 0, .int .i64 0, .slice none 0 0] := by rfl
  rw [hc]
  have h : ∀ r, r < 3 → (madeCells #[Value.int .i64 0, .int .i64 0, .slice none 0 0] (n * 3)).toList[i * 3 + r]? = some ((#[Value.int .i64 0, .int .i64 0, .slice none 0 0] : Array Value)[r]!) := fun r hr => by
    simp only [madeCells]
    simp [show i * 3 + r < n * 3 by omega, show (i * 3 + r) % 3 = r by omega]
  exact ⟨h 0 (by omega), h 1 (by omega), h 2 (by omega)⟩
theorem zD_snoc (n : Nat) : (List.replicate n zD).flatten ++ [.int .i64 0, .int .i64 0, .slice none 0 0] = (List.replicate (n + 1) zD).flatten := by
  rw [List.replicate_succ', List.flatten_append]
  simp [zD]
theorem Try.infoDone : (Try.prog.info? 123).map (fun i => (i.zero, i.size, i.bytes)) = some (some (.agg #[.int .i64 0, .int .i64 0, .slice none 0 0]), 3, 40) := by kernel_rfl

set_option maxHeartbeats 1600000 in
theorem snew_any (cl : Int) (ad : Option Addr) (N cap : Nat) (ga : Option Addr) (gn gc : Nat) (sa : Option Addr) (sn sc : Nat) (w : World) (h1 : 1 ≤ cl) (h4 : cl ≤ 4) :
    Calls Try.prog 47 #[plV cl ad N cap ga gn gc sa sn sc] w fun e w' => ∃ B dc, e = .returned (.slice (some ⟨B, 0, none⟩) cl.toNat dc) ∧ Below w.heap.size w w' ∧ DX w' (some ⟨B, 0, none⟩) B cl.toNat (fun _ => (0, 0)) ∧ w.heap.size ≤ B := by
  obtain ⟨c, rfl⟩ : ∃ c : Nat, cl = c := ⟨cl.toNat, by omega⟩
  have n0 := (BP.new w [.int .i64 c, .slice ad N cap, .slice ga gn gc, .slice sa sn sc] 35).alloc (.cells #[] 123)
  have o0 : ((w.alloc (.cells #[.int .i64 c, .slice ad N cap, .slice ga gn gc, .slice sa sn sc] 35)).alloc (.cells #[] 123)).ownsRow w.heap.size 123 3 (.slice (some ⟨w.heap.size + 1, 0, none⟩) 0 0) 0 [] := by
    have := World.ownsRow_lit (e := 123) (size := 3) (base := w.heap.size) (w.alloc (.cells #[.int .i64 c, .slice ad N cap, .slice ga gn gc, .slice sa sn sc] 35)) #[] 0 (by simp) (by unfold maxLen; omega) rfl
    rw [World.size_alloc] at this; exact this
  obtain ⟨i0, hi, hz0, hz1, hz2⟩ := info_parts Try.infoDone
  go_enter Try.func47, Try.ntmps47
  go_wp2_with fail
  go_loopw [3, 4] (fun r i wr => ∃ (k G cp : Nat), k ≤ c ∧ i = .int .i64 k ∧ r = .slice (some ⟨G, 0, none⟩) k cp ∧ BP w w.heap.size [.int .i64 c, .slice ad N cap, .slice ga gn gc, .slice sa sn sc] 35 wr ∧ G ≠ w.heap.size ∧ wr.ownsRow w.heap.size 123 3 (.slice (some ⟨G, 0, none⟩) k cp) k (List.replicate k zD).flatten) (fun _ i _ => c - (intOf i).toNat)
  case atStart => exact ⟨0, _, _, Nat.zero_le _, rfl, rfl, n0, by omega, o0⟩
  case round =>
    clear n0 o0
    obtain ⟨k, G, cp, hk, rfl, rfl, n, hG, o⟩ := hrel
    obtain ⟨c0, c1, c2, c3⟩ := n.p.quadP
    have s0 := n.b.size
    have p0 := n.p.lt
    by_cases hlt : k < c
    · have hlt' : (k : Int) < c := by omega
      go_wp2_with (at_builtin; go_must (refine wpList_append_lies _ rfl (.tmp 12) (.tmp 14) 27 rfl w.heap.size 123 i0 _ 3 40 Try.underlying27 hi hz0 hz1 hz2 rfl (by decide) _ _ _ rfl (o.alloc _) ⟨wr.heap.size, 0, none⟩ 1 1 [.int .i64 0, .int .i64 0, .slice none 0 0] rfl rfl (World.news_of_block (cs := #[.int .i64 0, .int .i64 0, .slice none 0 0]) (t := 123) (fr := (0, 0)) (heap_alloc_new wr _)) (by simp [Value.oneCell']) (by omega) (by unfold maxLen; omega) (by omega) (by rw [World.size_alloc]; omega) _ rfl ?_); intro g cp2 w2 hown hgrow hat hlt1)
      have n2 : BP w w.heap.size [.int .i64 c, .slice ad N cap, .slice ga gn gc, .slice sa sn sc] 35 w2 := by
        have na := n.alloc (.cells #[.int .i64 0, .int .i64 0, .slice none 0 0] 123)
        refine ⟨?_, na.b.grown hgrow na.b.size (fun z hz => ?_)⟩
        · have hl := na.p.lt
          unfold Cel
          rw [hgrow.block _ hl (fun e => by have e' : some w.heap.size = some G := e; simp only [Option.some.injEq] at e'; omega)]
          exact na.p
        · have hz' : some G = some z := hz
          simp only [Option.some.injEq] at hz'
          rcases o.2 with ⟨h', _⟩ | ⟨g', cap', cur, h', hb, _⟩
          · cases h'
          · simp only [Value.slice.injEq, Option.some.injEq, Addr.mk.injEq, and_true, true_and] at h'
            omega
      have hg2 : g ≠ w.heap.size := by
        rcases hat with h | h
        · have h' : some G = some g := h
          simp only [Option.some.injEq] at h'
          omega
        · rw [World.size_alloc] at h; omega
      rw [zD_snoc] at hown
      clear n o c0 c1 c2 c3
      go_wp2
      go_roundw
      case rel => exact ⟨k + 1, g, cp2, by omega, by go_num, rfl, n2, hg2, hown⟩
      case measure => simp [intOf]; omega
    · obtain rfl : k = c := by omega
      obtain ⟨d1, d2⟩ := own_d o (zD_at k)
      go_wp2
      go_ret
      exact ⟨G, cp, rfl, n.b, d1, d2⟩

/-- What either text makes of a plan. -/
def SitR (w w' : World) (e : Ending) (b : Bool) (cl : Int) (S : List Int) : Prop :=
  ∃ ba B1 bc aa B2 ac da B3 dc bn an dn Bs As, e = .returned (sitV b false 0 ba bn bc aa an ac da dn dc) ∧ Below w.heap.size w w' ∧ SitX w' ba B1 bn Bs aa B2 an As da B3 dn (fun _ => (0, 0)) ∧ (0 < bn → w.heap.size ≤ B1) ∧ (0 < an → w.heap.size ≤ B2) ∧ (0 < dn → w.heap.size ≤ B3) ∧
    Bs = (if b then S else []) ∧ As = (if b then [0, 0, 0] else []) ∧ bn = (if b then 3 else 0) ∧ an = (if b then 3 else 0) ∧ dn = (if b then cl.toNat else 0)
theorem pln_three {cl : Int} {N : Nat} {ss : List L2V} {gn : Nat} {G : List Int} {sn : Nat} {S : List Int} (h : plnB cl N ss gn G sn S = true) : sn = 3 := by
  simp only [plnB, okN, Bool.and_eq_true, decide_eq_true_eq] at h
  have := h.2.2.1.1
  omega

theorem put6 {W : World} {X : Nat} {vs : List Value} {T : TypeId} (h : Cel W X vs T) (hl : vs.length = 6) (v0 v1 v2 v3 v4 v5 : Value) :
    Cel ((((((W.setCell ⟨X, 0, none⟩ v0).setCell ⟨X, 1, none⟩ v1).setCell ⟨X, 2, none⟩ v2).setCell ⟨X, 3, none⟩ v3).setCell ⟨X, 4, none⟩ v4).setCell ⟨X, 5, none⟩ v5) X [v0, v1, v2, v3, v4, v5] T ∧ Touch (fun z => z = X) W ((((((W.setCell ⟨X, 0, none⟩ v0).setCell ⟨X, 1, none⟩ v1).setCell ⟨X, 2, none⟩ v2).setCell ⟨X, 3, none⟩ v3).setCell ⟨X, 4, none⟩ v4).setCell ⟨X, 5, none⟩ v5) := by
  refine ⟨?_, (((((((Touch.refl (fun z => z = X) W).setCell rfl _).setCell rfl _).setCell rfl _).setCell rfl _).setCell rfl _).setCell rfl _)⟩
  have := (((((h.set 0 v0).set 1 v1).set 2 v2).set 3 v3).set 4 v4).set 5 v5
  match vs, hl with
  | [a, b, c, d, e, f], _ => exact this
theorem Ints.pos' {w : World} {b off n : Nat} {zs : List Int} (h : Ints w (some ⟨b, off, none⟩) n zs) : ∀ i, i < n → w.cell? ⟨b, off + i, none⟩ = some (.int .i64 (zs.getD i 0)) := fun i hi => by
  obtain ⟨b', o', e, hc⟩ := h.2 i hi
  simp only [Option.some.injEq, Addr.mk.injEq, and_true] at e
  obtain ⟨rfl, rfl⟩ := e
  exact hc

end Go.Proofs.Ythhfjodggmmcoaa
