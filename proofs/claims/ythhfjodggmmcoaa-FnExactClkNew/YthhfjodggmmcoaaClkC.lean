/-
  The clerk at its beginning: what was told, with nothing in it (spec.l9None). No condition.
-/
import Derived.Test.YthhfjodggmmcoaaSitC
import Derived.Test.YthhfjodggmmcoaaClkB
namespace Go.Proofs.Ythhfjodggmmcoaa
open Go.RowKit Go.Deep
set_option linter.unusedVariables false
set_option maxRecDepth 100000

theorem if_then {c a b : Prop} [Decidable c] (h : c) (ha : a) : if c then a else b := by rw [if_pos h]; exact ha
theorem own_g {W : World} {base g cap n : Nat} {xs : List Value} (h : W.ownsRow base 125 3 (.slice (some ⟨g, 0, none⟩) n cap) n xs) (hx : ∀ i, i < n → xs[i * 3]? = some (.bool false) ∧ xs[i * 3 + 1]? = some (.slice none 0 0) ∧ xs[i * 3 + 2]? = some (.slice none 0 0)) : GX W (some ⟨g, 0, none⟩) g n (fun _ => false) ∧ base ≤ g := by
  rcases h.2 with ⟨h', _⟩ | ⟨g', cap', cur, h', hb, hg, _, _, hcs, htake⟩
  · cases h'
  · simp only [Value.slice.injEq, Option.some.injEq, Addr.mk.injEq, and_true, true_and] at h'
    obtain ⟨rfl, rfl⟩ := h'
    refine ⟨.inr ⟨rfl, cur.toList, by unfold Cel; simpa using hg, fun i hi => ?_⟩, hb⟩
    have h1 : ∀ j, j < n * 3 → cur.toList[j]? = xs[j]? := fun j hj => by rw [← htake, List.getElem?_take, if_pos hj]
    obtain ⟨x0, x1, x2⟩ := hx i hi
    exact ⟨(h1 _ (by omega)).trans x0, (h1 _ (by omega)).trans x1, (h1 _ (by omega)).trans x2⟩
def zG : List Value := [.bool false, .slice none 0 0, .slice none 0 0]
theorem zG_at (n : Nat) : ∀ i, i < n → ((List.replicate n zG).flatten)[i * 3]? = some (.bool false) ∧ ((List.replicate n zG).flatten)[i * 3 + 1]? = some (.slice none 0 0) ∧ ((List.replicate n zG).flatten)[i * 3 + 2]? = some (.slice none 0 0) := by
  induction n with
  | zero => intro i hi; omega
  | succ n ih =>
    intro i hi
    rw [List.replicate_succ, List.flatten_cons]
    cases i with
    | zero => exact ⟨rfl, rfl, rfl⟩
    | succ i =>
      have hz : zG.length = 3 := rfl
      rw [List.getElem?_append_right (by rw [hz]; omega), List.getElem?_append_right (by rw [hz]; omega), List.getElem?_append_right (by rw [hz]; omega), hz, show (i + 1) * 3 - 3 = i * 3 by omega, show (i + 1) * 3 + 1 - 3 = i * 3 + 1 by omega, show (i + 1) * 3 + 2 - 3 = i * 3 + 2 by omega]
      exact ih i (by omega)
theorem madeG (n : Nat) : ∀ i, i < n → (madeCells (Value.agg #[.bool false, .slice none 0 0, .slice none 0 0]).cells (n * 3)).toList[i * 3]? = some (.bool false) ∧ (madeCells (Value.agg #[.bool false, .slice none 0 0, .slice none 0 0]).cells (n * 3)).toList[i * 3 + 1]? = some (.slice none 0 0) ∧ (madeCells (Value.agg #[.bool false, .slice none 0 0, .slice none 0 0]).cells (n * 3)).toList[i * 3 + 2]? = some (.slice none 0 0) := by
  intro i hi
  have hc : (Value.agg #[.bool false, .slice none 0 0, .slice none 0 0]).cells = #[.bool false, .slice none 0 0, .slice none 0 0] := by rfl
  rw [hc]
  have h : ∀ r, r < 3 → (madeCells #[Value.bool false, .slice none 0 0, .slice none 0 0] (n * 3)).toList[i * 3 + r]? = some ((#[Value.bool false, .slice none 0 0, .slice none 0 0] : Array Value)[r]!) := fun r hr => by
    simp only [madeCells]
    simp [show i * 3 + r < n * 3 by omega, show (i * 3 + r) % 3 = r by omega]
  exact ⟨h 0 (by omega), h 1 (by omega), h 2 (by omega)⟩
theorem zG_snoc (n : Nat) : (List.replicate n zG).flatten ++ [.bool false, .slice none 0 0, .slice none 0 0] = (List.replicate (n + 1) zG).flatten := by
  rw [List.replicate_succ', List.flatten_append]
  simp [zG]
theorem Try.infoGot : (Try.prog.info? 125).map (fun i => (i.zero, i.size, i.bytes)) = some (some (.agg #[.bool false, .slice none 0 0, .slice none 0 0]), 3, 56) := by kernel_rfl

set_option maxHeartbeats 1600000 in
theorem snone_any (cl : Int) (ad : Option Addr) (N cap : Nat) (ga : Option Addr) (gn gc : Nat) (sa : Option Addr) (sn sc : Nat) (w : World) (h4 : gn ≤ 4) :
    Calls Try.prog 48 #[plV cl ad N cap ga gn gc sa sn sc] w fun e w' => ∃ B dc, e = .returned (.slice (some ⟨B, 0, none⟩) gn dc) ∧ Below w.heap.size w w' ∧ GX w' (some ⟨B, 0, none⟩) B gn (fun _ => false) ∧ w.heap.size ≤ B := by
  have n0 := (BP.new w [.int .i64 cl, .slice ad N cap, .slice ga gn gc, .slice sa sn sc] 35).alloc (.cells #[] 125)
  have o0 : ((w.alloc (.cells #[.int .i64 cl, .slice ad N cap, .slice ga gn gc, .slice sa sn sc] 35)).alloc (.cells #[] 125)).ownsRow w.heap.size 125 3 (.slice (some ⟨w.heap.size + 1, 0, none⟩) 0 0) 0 [] := by
    have := World.ownsRow_lit (e := 125) (size := 3) (base := w.heap.size) (w.alloc (.cells #[.int .i64 cl, .slice ad N cap, .slice ga gn gc, .slice sa sn sc] 35)) #[] 0 (by simp) (by unfold maxLen; omega) rfl
    rw [World.size_alloc] at this; exact this
  obtain ⟨i0, hi, hz0, hz1, hz2⟩ := info_parts Try.infoGot
  go_enter Try.func48, Try.ntmps48
  go_wp2_with fail
  go_loopw [3, 4] (fun r i wr => ∃ (k G cp : Nat), k ≤ gn ∧ i = .int .i64 k ∧ r = .slice (some ⟨G, 0, none⟩) k cp ∧ BP w w.heap.size [.int .i64 cl, .slice ad N cap, .slice ga gn gc, .slice sa sn sc] 35 wr ∧ G ≠ w.heap.size ∧ wr.ownsRow w.heap.size 125 3 (.slice (some ⟨G, 0, none⟩) k cp) k (List.replicate k zG).flatten) (fun _ i _ => gn - (intOf i).toNat)
  case atStart => exact ⟨0, _, _, Nat.zero_le _, rfl, rfl, n0, by omega, o0⟩
  case round =>
    clear n0 o0
    obtain ⟨k, G, cp, hk, rfl, rfl, n, hG, o⟩ := hrel
    obtain ⟨c0, c1, c2, c3⟩ := n.p.quadP
    have s0 := n.b.size
    have p0 := n.p.lt
    by_cases hlt : k < gn
    · have hlt' : (k : Int) < gn := by omega
      go_wp2_with (at_builtin; go_must (refine wpList_append_lies _ rfl (.tmp 13) (.tmp 15) 29 rfl w.heap.size 125 i0 _ 3 56 Try.underlying29 hi hz0 hz1 hz2 rfl (by decide) _ _ _ rfl (o.alloc _) ⟨wr.heap.size, 0, none⟩ 1 1 [.bool false, .slice none 0 0, .slice none 0 0] rfl rfl (World.news_of_block (cs := #[.bool false, .slice none 0 0, .slice none 0 0]) (t := 125) (fr := (0, 0)) (heap_alloc_new wr _)) (by simp [Value.oneCell']) (by omega) (by unfold maxLen; omega) (by omega) (by rw [World.size_alloc]; omega) _ rfl ?_); intro g cp2 w2 hown hgrow hat hlt1)
      have n2 : BP w w.heap.size [.int .i64 cl, .slice ad N cap, .slice ga gn gc, .slice sa sn sc] 35 w2 := by
        have na := n.alloc (.cells #[.bool false, .slice none 0 0, .slice none 0 0] 125)
        refine ⟨?_, na.b.grown hgrow na.b.size (fun z hz => ?_)⟩
        · have hl := na.p.lt
          unfold Cel
          rw [hgrow.block _ hl (fun e => by have e' : some w.heap.size = some G := e; simp only [Option.some.injEq] at e'; omega)]
          exact na.p
        · have hz' : some G = some z := hz
          simp only [Option.some.injEq] at hz'
          rcases o.2 with ⟨h', _⟩ | ⟨g', cap', cur, h', hb, _⟩
          · cases h'
          · simp only [Value.slice.injEq, Option.some.injEq, Addr.mk.injEq, and_true, true_and] at h'
            omega
      have hg2 : g ≠ w.heap.size := by
        rcases hat with h | h
        · have h' : some G = some g := h
          simp only [Option.some.injEq] at h'
          omega
        · rw [World.size_alloc] at h; omega
      rw [zG_snoc] at hown
      clear n o c0 c1 c2 c3
      go_wp2
      go_roundw
      case rel => exact ⟨k + 1, g, cp2, by omega, by go_num, rfl, n2, hg2, hown⟩
      case measure => simp [intOf]; omega
    · obtain rfl : k = gn := by omega
      obtain ⟨d1, d2⟩ := own_g o (zG_at k)
      go_wp2
      go_ret
      exact ⟨G, cp, rfl, n.b, d1, d2⟩

/-- What either text makes of a plan. -/
def ClkR (w w' : World) (e : Ending) (b : Bool) (cl : Int) (gm : Nat) (S : List Int) : Prop :=
  ∃ ba B1 bc da B2 dc ga B3 gc bn dn gn Bs, e = .returned (clkV b 0 ba bn bc da dn dc ga gn gc) ∧ Below w.heap.size w w' ∧ ClkX w' ba B1 bn Bs da B2 dn (fun _ => (0, 0)) ga B3 gn (fun _ => false) ∧ (0 < bn → w.heap.size ≤ B1) ∧ (0 < dn → w.heap.size ≤ B2) ∧ (0 < gn → w.heap.size ≤ B3) ∧
    Bs = (if b then S else []) ∧ bn = (if b then 3 else 0) ∧ dn = (if b then cl.toNat else 0) ∧ gn = (if b then gm else 0)

end Go.Proofs.Ythhfjodggmmcoaa
