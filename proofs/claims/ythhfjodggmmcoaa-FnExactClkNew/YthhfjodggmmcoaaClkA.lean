/-
  What sites have told, with nothing in it; calls that wait, if there are none: held against others, marked, looked up again. No more than three sites.
-/
import Derived.Test.YthhfjodggmmcoaaSitB
namespace Go.Proofs.Ythhfjodggmmcoaa
open Go.RowKit
set_option linter.unusedVariables false
set_option maxRecDepth 100000

/-- What a site has told, with nothing in it, as a value. -/
abbrev gtV (b : Bool) : Value := .agg #[.bool b, .slice none 0 0, .slice none 0 0]
abbrev clkV (u : Bool) (r : Int) (ba : Option Addr) (bn bc : Nat) (da : Option Addr) (dn dc : Nat) (ga : Option Addr) (gn gc : Nat) : Value := .agg #[.bool u, .int .i64 r, .slice ba bn bc, .slice da dn dc, .slice none 0 0, .slice ga gn gc]

/-- The first n of block B, free to be written: what was told, with nothing in it. -/
def GX (W : World) (a : Option Addr) (B n : Nat) (f : Nat → Bool) : Prop :=
  n = 0 ∨ (a = some ⟨B, 0, none⟩ ∧ ∃ cur : List Value, Cel W B cur 125 ∧ ∀ i, i < n → cur[i * 3]? = some (.bool (f i)) ∧ cur[i * 3 + 1]? = some (.slice none 0 0) ∧ cur[i * 3 + 2]? = some (.slice none 0 0))
theorem GX.zero (W : World) (a : Option Addr) (B : Nat) (f : Nat → Bool) : GX W a B 0 f := .inl rfl
theorem GX.lt {W : World} {a : Option Addr} {B n : Nat} {f : Nat → Bool} (h : GX W a B n f) (hn : 0 < n) : B < W.heap.size := by
  rcases h with h | ⟨_, cur, hc, _⟩
  · omega
  · exact hc.lt
theorem GX.touch {S : Nat → Prop} {W W' : World} {a : Option Addr} {B n : Nat} {f : Nat → Bool} (h : GX W a B n f) (t : Touch S W W') (hn : 0 < n → ¬ S B) : GX W' a B n f := by
  rcases h with h | ⟨e, cur, hc, hv⟩
  · exact .inl h
  · rcases Nat.eq_zero_or_pos n with h0 | h0
    · exact .inl h0
    · exact .inr ⟨e, cur, hc.touch t (hn h0), hv⟩
theorem GX.below {W W' : World} {a : Option Addr} {B n : Nat} {f : Nat → Bool} (h : GX W a B n f) (b : Below W.heap.size W W') : GX W' a B n f := h.touch (S := fun _ => False) (Touch.of b) (fun _ h => h)
theorem GX.ext {W : World} {a : Option Addr} {B n : Nat} {f g : Nat → Bool} (h : GX W a B n f) (e : ∀ i, i < n → f i = g i) : GX W a B n g := by
  rcases h with h | ⟨e1, cur, hc, hv⟩
  · exact .inl h
  · exact .inr ⟨e1, cur, hc, fun i hi => by rw [← e i hi]; exact hv i hi⟩
/-- One of them is overwritten. -/
theorem GX.put {W : World} {a : Option Addr} {B n : Nat} {f : Nat → Bool} (h : GX W a B n f) {k : Nat} (hk : k < n) (x : Bool) : GX (W.setCell ⟨B, k * 3, none⟩ (.bool x)) a B n (fun i => if i = k then x else f i) := by
  rcases h with h | ⟨e1, cur, hc, hv⟩
  · exact .inl h
  · have hlen : k * 3 + 2 < cur.length := by
      obtain ⟨_, _, h2⟩ := hv k hk
      exact (List.getElem?_eq_some_iff.1 h2).1
    refine .inr ⟨e1, _, hc.set (k * 3) _, fun i hi => ?_⟩
    obtain ⟨h0, h1, h2⟩ := hv i hi
    dsimp only
    by_cases e : i = k
    · subst e
      rw [if_pos rfl]
      refine ⟨?_, ?_, ?_⟩
      · rw [List.getElem?_set_self (by omega)]
      · rw [List.getElem?_set_ne (by omega)]; exact h1
      · rw [List.getElem?_set_ne (by omega)]; exact h2
    · rw [if_neg e]
      refine ⟨?_, ?_, ?_⟩
      · rw [List.getElem?_set_ne (by omega)]; exact h0
      · rw [List.getElem?_set_ne (by omega)]; exact h1
      · rw [List.getElem?_set_ne (by omega)]; exact h2
theorem GX.at {W : World} {a : Option Addr} {B n : Nat} {f : Nat → Bool} (h : GX W a B n f) {k : Nat} (hk : k < n) : a = some ⟨B, 0, none⟩ ∧ W.cell? ⟨B, k * 3, none⟩ = some (.bool (f k)) ∧ W.cell? ⟨B, k * 3 + 1, none⟩ = some (.slice none 0 0) ∧ W.cell? ⟨B, k * 3 + 2, none⟩ = some (.slice none 0 0) ∧ ∀ i, W.frozen? ⟨B, i, none⟩ = false := by
  rcases h with h | ⟨e1, cur, hc, hv⟩
  · omega
  · obtain ⟨h0, h1, h2⟩ := hv k hk
    exact ⟨e1, (hc.cell _).trans h0, (hc.cell _).trans h1, (hc.cell _).trans h2, fun i => hc.free i⟩

set_option maxHeartbeats 1600000 in
theorem eqGt_same (s : Bool) (w : World) : Calls Try.prog 94 #[gtV s, gtV s] w fun e w' => e = .returned (.bool true) ∧ Below w.heap.size w w' := by
  have hc : (s != s) = false := by cases s <;> rfl
  have x0 := (Cel.new w [.bool s, .slice none 0 0, .slice none 0 0] 125).alloc (.cells #[.bool s, .slice none 0 0, .slice none 0 0] 125)
  have y0 := Cel.new (w.alloc (.cells #[.bool s, .slice none 0 0, .slice none 0 0] 125)) [.bool s, .slice none 0 0, .slice none 0 0] 125
  rw [World.size_alloc] at y0
  have B0 : Below w.heap.size w ((w.alloc (.cells #[.bool s, .slice none 0 0, .slice none 0 0] 125)).alloc (.cells #[.bool s, .slice none 0 0, .slice none 0 0] 125)) := ((Below.refl _ _).alloc (Nat.le_refl _) _).alloc (by simp) _
  go_enter Try.func94, Try.ntmps94
  go_wp2_with fail
  refine (eq_any _ _ _ _ _ _ [] [] _ (ints0 _ _) (ints0 _ _) (by omega) (by omega)).mono ?_
  rintro e w1 ⟨rfl, b1⟩
  rw [eqB_refl]
  have x1 := x0.below b1
  have y1 := y0.below b1
  have B1 := B0.trans (b1.mono B0.size)
  clear x0 y0 b1 B0
  obtain ⟨a0, a1, a2, -, -, -⟩ := x1.trio
  obtain ⟨c0, c1, c2, -, -, -⟩ := y1.trio
  go_wp2_with fail
  refine (eq_any _ _ _ _ _ _ [] [] _ (ints0 _ _) (ints0 _ _) (by omega) (by omega)).mono ?_
  rintro e w2 ⟨rfl, b2⟩
  rw [eqB_refl]
  have B2 := B1.trans (b2.mono B1.size)
  go_wp2
  go_ret
  exact ⟨rfl, B2⟩

set_option maxHeartbeats 1600000 in
theorem eqGS_same (a a' : Option Addr) (B B' n cap cap' : Nat) (f : Nat → Bool) (w : World) (h : GX w a B n f) (h' : GX w a' B' n f) (hn : n ≤ 4) :
    Calls Try.prog 55 #[.slice a n cap, .slice a' n cap'] w fun e w' => e = .returned (.bool true) ∧ Below w.heap.size w w' := by
  have H : Hid (GX w a B n f) := h
  have H' : Hid (GX w a' B' n f) := h'
  clear h h'
  go_enter Try.func55, Try.ntmps55
  go_wp2_with fail
  go_loopw [5] (fun i wr => ∃ k : Nat, k ≤ n ∧ i = .int .i64 k ∧ Below w.heap.size w wr) (fun i _ => n - (intOf i).toNat)
  case atStart => exact ⟨0, Nat.zero_le _, rfl, Below.refl _ _⟩
  case round =>
    obtain ⟨k, hk, rfl, hb⟩ := hrel
    by_cases hlt : k < n
    · obtain ⟨ea, c0, c1, c2, -⟩ := (H.out.below hb).at hlt
      obtain ⟨ea', d0, d1, d2, -⟩ := (H'.out.below hb).at hlt
      generalize f k = x at *
      subst ea ea'
      have hlt' : (k : Int) < (n : Int) := by omega
      go_wp2_with fail
      go_region_with (first | (go_at_call 94; refine (eqGt_same _ _).mono ?_; rintro ee w1 ⟨rfl, b1⟩))
      all_goals
        have b1' := below_of_drew b1
        go_wp2
        go_roundw
        case rel => exact ⟨k + 1, by omega, by go_num, hb.trans (b1'.mono hb.size)⟩
        case measure => simp [intOf]; omega
    · go_wp2
      go_ret
      exact ⟨rfl, hb⟩

def thrB (k : Int) : Bool := k % 3 == 0

set_option maxHeartbeats 1600000 in
theorem markGS_any (a : Option Addr) (B n cap : Nat) (f : Nat → Bool) (k0 : Int) (w : World) (h : GX w a B n f) (hn : n ≤ 4) (hk0 : 0 ≤ k0) (hk : k0 ≤ 1000000) :
    Calls Try.prog 59 #[.slice a n cap, .int .i64 k0] w fun e w' => e = .returned (.int .i64 (k0 + n)) ∧ Touch (fun x => x = B ∧ 0 < n) w w' ∧ GX w' a B n (fun i => thrB (k0 + i)) := by
  have H : Hid (GX w a B n f) := h
  clear h
  go_enter Try.func59, Try.ntmps59
  go_wp2_with fail
  go_loopw [1, 5] (fun kv i wr => ∃ k : Nat, k ≤ n ∧ i = .int .i64 k ∧ kv = .int .i64 (k0 + k) ∧ Touch (fun x => x = B ∧ 0 < n) w wr ∧ GX wr a B n (fun i => if i < k then thrB (k0 + i) else f i)) (fun _ i _ => n - (intOf i).toNat)
  case atStart => exact ⟨0, Nat.zero_le _, rfl, by simp, Touch.refl _ _, H.out.ext (fun i _ => by simp)⟩
  case round =>
    obtain ⟨k, hk', rfl, rfl, t, d⟩ := hrel
    by_cases hlt : k < n
    · obtain ⟨ea, c0, c1, c2, fz⟩ := d.at hlt
      subst ea
      have f0 := fz (k * 3)
      obtain ⟨kk, hkk⟩ : ∃ kk : Int, kk = k0 + k := ⟨_, rfl⟩
      have ht : (kk % 3 == 0) = thrB kk := rfl
      have dp := d.put hlt (thrB kk)
      have D : Hid (GX (wr.setCell ⟨B, k * 3, none⟩ (.bool (thrB kk))) (some ⟨B, 0, none⟩) B n (fun i => if i < k + 1 then thrB (k0 + i) else f i)) := dp.ext (fun i hi => by
        by_cases e : i = k
        · subst e; simp [hkk]
        · by_cases e2 : i < k
          · simp [e, e2, Nat.lt_succ_of_lt e2]
          · simp [e, e2, show ¬ i < k + 1 by omega])
      have T2 : Touch (fun x => x = B ∧ 0 < n) w (wr.setCell ⟨B, k * 3, none⟩ (.bool (thrB kk))) := t.setCell (B := B) ⟨rfl, by omega⟩ _
      have hlt' : (k : Int) < (n : Int) := by omega
      have hk1 : 0 ≤ kk := by omega
      have hk2 : kk ≤ 1000010 := by omega
      rw [← hkk]
      have HK : Hid (kk = k0 + k) := hkk
      obtain ⟨bb, hbb⟩ : ∃ bb, bb = thrB kk := ⟨_, rfl⟩
      rw [← hbb] at ht D T2
      clear d dp t fz hkk hbb
      go_wp2_with fail
      refine (mark_any none 0 0 B [] _ _ (.inl rfl) rfl (by omega) (by omega) (by omega)).mono ?_
      rintro ee w2 ⟨rfl, t2, -⟩
      have D2 := D.out.touch t2 (fun _ h => by omega)
      have T3 := T2.trans (t2.mono (T := fun x => x = B ∧ 0 < n) fun y hy => by omega)
      obtain ⟨-, -, e1, e2, -⟩ := D2.at hlt
      clear D T2 t2 c0 c1 c2 f0
      go_wp2_with fail
      refine (mark_any none 0 0 B [] _ _ (.inl rfl) rfl (by omega) (by omega) (by omega)).mono ?_
      rintro ee w3 ⟨rfl, t3, -⟩
      have D3 := D2.touch t3 (fun _ h => by omega)
      have T4 := T3.trans (t3.mono (T := fun x => x = B ∧ 0 < n) fun y hy => by omega)
      clear D2 T3 t3 e1 e2
      go_wp2
      go_roundw
      case rel => exact ⟨k + 1, by omega, by go_num, by rw [HK.out]; go_num, T4, D3⟩
      case measure => simp [intOf]; omega
    · obtain rfl : k = n := by omega
      go_wp2
      go_ret
      exact ⟨rfl, t, d.ext (fun i hi => by rw [if_pos hi])⟩

set_option maxHeartbeats 1600000 in
theorem heldGS_any (a : Option Addr) (B n cap : Nat) (k0 : Int) (w : World) (h : GX w a B n (fun i => thrB (k0 + i))) (hn : n ≤ 4) (hk0 : 0 ≤ k0) (hk : k0 ≤ 1000000) :
    Calls Try.prog 63 #[.slice a n cap, .int .i64 k0] w fun e w' => e = .returned (.int .i64 (k0 + n)) ∧ w' = w := by
  have H : Hid (GX w a B n (fun i => thrB (k0 + i))) := h
  clear h
  go_enter Try.func63, Try.ntmps63
  go_wp2_with fail
  go_loopw [1, 5] (fun kv i wr => ∃ k : Nat, k ≤ n ∧ i = .int .i64 k ∧ kv = .int .i64 (k0 + k) ∧ wr = w) (fun _ i _ => n - (intOf i).toNat)
  case atStart => exact ⟨0, Nat.zero_le _, rfl, by simp, rfl⟩
  case round =>
    obtain ⟨k, hk', rfl, rfl, rfl⟩ := hrel
    by_cases hlt : k < n
    · obtain ⟨ea, c0, c1, c2, -⟩ := H.out.at hlt
      subst ea
      (try dsimp only at c0)
      obtain ⟨kk, hkk⟩ : ∃ kk : Int, kk = k0 + k := ⟨_, rfl⟩
      rw [← hkk] at c0 ⊢
      have ht : (kk % 3 == 0) = thrB kk := rfl
      have hne : (thrB kk != thrB kk) = false := by cases thrB kk <;> rfl
      have hlt' : (k : Int) < (n : Int) := by omega
      have hk1 : 0 ≤ kk := by omega
      have hk2 : kk ≤ 1000010 := by omega
      have HK : Hid (kk = k0 + k) := hkk
      clear hkk
      generalize thrB kk = bb at *
      go_wp2_with fail
      refine (held_any none 0 0 _ _ (by exact ints0 _ _) (by omega) (by omega) (by omega)).mono ?_
      rintro ee w2 ⟨rfl, rfl⟩
      have hp : 0 ≤ kk + 1 := by omega
      go_wp2_with fail
      refine (held_any none 0 0 _ _ (by exact ints0 _ _) (by omega) (by omega) (by omega)).mono ?_
      rintro ee w2 ⟨rfl, rfl⟩
      go_wp2
      go_roundw
      case rel => exact ⟨k + 1, by omega, by go_num, by rw [HK.out]; go_num, trivial⟩
      case measure => simp [intOf]; omega
    · obtain rfl : k = n := by omega
      go_wp2
      go_ret
      exact ⟨rfl, rfl⟩

/-! Calls that wait, where there are none. -/
set_option maxHeartbeats 400000 in
theorem eqCS_none (a a' : Option Addr) (cap cap' : Nat) (w : World) :
    Calls Try.prog 54 #[.slice a 0 cap, .slice a' 0 cap'] w fun e w' => e = .returned (.bool true) ∧ w' = w := by
  go_enter Try.func54, Try.ntmps54
  go_wp2_with fail
  go_loop [5] (fun i => i = .int .i64 0) (fun i => 0)
  case atStart => exact rfl
  case round =>
    obtain rfl := hrel
    go_wp2
    go_ret
    exact ⟨rfl, rfl⟩
set_option maxHeartbeats 400000 in
theorem markCS_none (a : Option Addr) (cap : Nat) (k0 : Int) (w : World) :
    Calls Try.prog 58 #[.slice a 0 cap, .int .i64 k0] w fun e w' => e = .returned (.int .i64 k0) ∧ w' = w := by
  go_enter Try.func58, Try.ntmps58
  go_wp2_with fail
  go_loop [1, 5] (fun kk i => i = .int .i64 0 ∧ kk = .int .i64 k0) (fun _ i => 0)
  case atStart => exact ⟨rfl, rfl⟩
  case round =>
    obtain ⟨rfl, rfl⟩ := hrel
    go_wp2
    go_ret
    exact ⟨rfl, rfl⟩
set_option maxHeartbeats 400000 in
theorem heldCS_none (a : Option Addr) (cap : Nat) (k0 : Int) (w : World) :
    Calls Try.prog 62 #[.slice a 0 cap, .int .i64 k0] w fun e w' => e = .returned (.int .i64 k0) ∧ w' = w := by
  go_enter Try.func62, Try.ntmps62
  go_wp2_with fail
  go_loop [1, 5] (fun kk i => i = .int .i64 0 ∧ kk = .int .i64 k0) (fun _ i => 0)
  case atStart => exact ⟨rfl, rfl⟩
  case round =>
    obtain ⟨rfl, rfl⟩ := hrel
    go_wp2
    go_ret
    exact ⟨rfl, rfl⟩

end Go.Proofs.Ythhfjodggmmcoaa
