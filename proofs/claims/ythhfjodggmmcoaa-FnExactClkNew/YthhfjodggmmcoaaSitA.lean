/-
  What was done for clients, with nothing told; sites: held against another, marked, looked up again. No more than three pots and four clients.
-/
import Derived.Test.YthhfjodggmmcoaaOwn
import Derived.Test.YthhfjodggmmcoaaForms
namespace Go.Proofs.Ythhfjodggmmcoaa
open Go.RowKit
set_option linter.unusedVariables false
set_option maxRecDepth 100000

/-- A result with nothing told, what was done, a site: as values. -/
abbrev rsV (c : Int) : Value := .agg #[.int .i64 c, .slice none 0 0]
abbrev dnV (s c : Int) : Value := .agg #[.int .i64 s, .int .i64 c, .slice none 0 0]
abbrev sitV (u f : Bool) (r : Int) (ba : Option Addr) (bn bc : Nat) (aa : Option Addr) (an ac : Nat) (da : Option Addr) (dn dc : Nat) : Value := .agg #[.bool u, .bool f, .int .i64 r, .slice ba bn bc, .slice aa an ac, .slice da dn dc]

/-- The first n of block B, free to be written: what was done, and nothing told. -/
def DX (W : World) (a : Option Addr) (B n : Nat) (f : Nat → Int × Int) : Prop :=
  n = 0 ∨ (a = some ⟨B, 0, none⟩ ∧ ∃ cur : List Value, Cel W B cur 123 ∧ ∀ i, i < n → cur[i * 3]? = some (.int .i64 (f i).1) ∧ cur[i * 3 + 1]? = some (.int .i64 (f i).2) ∧ cur[i * 3 + 2]? = some (.slice none 0 0))
theorem DX.zero (W : World) (a : Option Addr) (B : Nat) (f : Nat → Int × Int) : DX W a B 0 f := .inl rfl
theorem DX.lt {W : World} {a : Option Addr} {B n : Nat} {f : Nat → Int × Int} (h : DX W a B n f) (hn : 0 < n) : B < W.heap.size := by
  rcases h with h | ⟨_, cur, hc, _⟩
  · omega
  · exact hc.lt
theorem DX.touch {S : Nat → Prop} {W W' : World} {a : Option Addr} {B n : Nat} {f : Nat → Int × Int} (h : DX W a B n f) (t : Touch S W W') (hn : 0 < n → ¬ S B) : DX W' a B n f := by
  rcases h with h | ⟨e, cur, hc, hv⟩
  · exact .inl h
  · rcases Nat.eq_zero_or_pos n with h0 | h0
    · exact .inl h0
    · exact .inr ⟨e, cur, hc.touch t (hn h0), hv⟩
theorem DX.below {W W' : World} {a : Option Addr} {B n : Nat} {f : Nat → Int × Int} (h : DX W a B n f) (b : Below W.heap.size W W') : DX W' a B n f := h.touch (S := fun _ => False) (Touch.of b) (fun _ h => h)
theorem DX.alloc {W : World} {a : Option Addr} {B n : Nat} {f : Nat → Int × Int} (h : DX W a B n f) (o : Obj) : DX (W.alloc o) a B n f := h.below ((Below.refl _ _).alloc (Nat.le_refl _) _)
theorem DX.ext {W : World} {a : Option Addr} {B n : Nat} {f g : Nat → Int × Int} (h : DX W a B n f) (e : ∀ i, i < n → f i = g i) : DX W a B n g := by
  rcases h with h | ⟨e1, cur, hc, hv⟩
  · exact .inl h
  · exact .inr ⟨e1, cur, hc, fun i hi => by rw [← e i hi]; exact hv i hi⟩
/-- One of them is overwritten. -/
theorem DX.put {W : World} {a : Option Addr} {B n : Nat} {f : Nat → Int × Int} (h : DX W a B n f) {k : Nat} (hk : k < n) (x y : Int) : DX ((W.setCell ⟨B, k * 3, none⟩ (.int .i64 x)).setCell ⟨B, k * 3 + 1, none⟩ (.int .i64 y)) a B n (fun i => if i = k then (x, y) else f i) := by
  rcases h with h | ⟨e1, cur, hc, hv⟩
  · exact .inl h
  · have hlen : k * 3 + 2 < cur.length := by
      obtain ⟨_, _, h2⟩ := hv k hk
      exact (List.getElem?_eq_some_iff.1 h2).1
    refine .inr ⟨e1, _, (hc.set (k * 3) _).set (k * 3 + 1) _, fun i hi => ?_⟩
    obtain ⟨h0, h1, h2⟩ := hv i hi
    dsimp only
    by_cases e : i = k
    · subst e
      rw [if_pos rfl]
      refine ⟨?_, ?_, ?_⟩
      · rw [List.getElem?_set_ne (by omega), List.getElem?_set_self (by omega)]
      · rw [List.getElem?_set_self (by rw [List.length_set]; omega)]
      · rw [List.getElem?_set_ne (by omega), List.getElem?_set_ne (by omega)]; exact h2
    · rw [if_neg e]
      refine ⟨?_, ?_, ?_⟩
      · rw [List.getElem?_set_ne (by omega), List.getElem?_set_ne (by omega)]; exact h0
      · rw [List.getElem?_set_ne (by omega), List.getElem?_set_ne (by omega)]; exact h1
      · rw [List.getElem?_set_ne (by omega), List.getElem?_set_ne (by omega)]; exact h2
theorem DX.at {W : World} {a : Option Addr} {B n : Nat} {f : Nat → Int × Int} (h : DX W a B n f) {k : Nat} (hk : k < n) : a = some ⟨B, 0, none⟩ ∧ W.cell? ⟨B, k * 3, none⟩ = some (.int .i64 (f k).1) ∧ W.cell? ⟨B, k * 3 + 1, none⟩ = some (.int .i64 (f k).2) ∧ W.cell? ⟨B, k * 3 + 2, none⟩ = some (.slice none 0 0) ∧ ∀ i, W.frozen? ⟨B, i, none⟩ = false := by
  rcases h with h | ⟨e1, cur, hc, hv⟩
  · omega
  · obtain ⟨h0, h1, h2⟩ := hv k hk
    exact ⟨e1, (hc.cell _).trans h0, (hc.cell _).trans h1, (hc.cell _).trans h2, fun i => hc.free i⟩

theorem ints0 (w : World) (a : Option Addr) : Ints w a 0 [] := ⟨rfl, fun i hi => by omega⟩
set_option maxHeartbeats 800000 in
theorem eqRs_same (c : Int) (w : World) : Calls Try.prog 117 #[rsV c, rsV c] w fun e w' => e = .returned (.bool true) ∧ Below w.heap.size w w' := by
  have hc : (c != c) = false := by simp
  go_enter Try.func117, Try.ntmps117
  go_wp2_with fail
  refine (eq_any _ _ _ _ _ _ [] [] _ (ints0 _ _) (ints0 _ _) (by omega) (by omega)).mono ?_
  rintro e w1 ⟨rfl, b1⟩
  rw [eqB_refl]
  go_wp2
  go_ret
  exact ⟨rfl, (((Below.refl _ _).alloc (Nat.le_refl _) _).alloc (by simp) _).trans (b1.mono (by simp; omega))⟩
set_option maxHeartbeats 800000 in
theorem eqDn_same (s c : Int) (w : World) : Calls Try.prog 92 #[dnV s c, dnV s c] w fun e w' => e = .returned (.bool true) ∧ Below w.heap.size w w' := by
  have hc : (s != s) = false := by simp
  have x0 := (Cel.new w [.int .i64 s, .int .i64 c, .slice none 0 0] 123).alloc (.cells #[.int .i64 s, .int .i64 c, .slice none 0 0] 123)
  have y0 := Cel.new (w.alloc (.cells #[.int .i64 s, .int .i64 c, .slice none 0 0] 123)) [.int .i64 s, .int .i64 c, .slice none 0 0] 123
  rw [World.size_alloc] at y0
  obtain ⟨a0, a1, a2, -, -, -⟩ := x0.trio
  obtain ⟨b0, b1, b2, -, -, -⟩ := y0.trio
  go_enter Try.func92, Try.ntmps92
  go_wp2_with fail
  refine (eqRs_same _ _).mono ?_
  rintro e w1 ⟨rfl, bb⟩
  go_wp2
  go_ret
  exact ⟨rfl, (((Below.refl _ _).alloc (Nat.le_refl _) _).alloc (by simp) _).trans (bb.mono (by simp; omega))⟩

set_option maxHeartbeats 1600000 in
theorem eqDS_same (a a' : Option Addr) (B B' n cap cap' : Nat) (f : Nat → Int × Int) (w : World) (h : DX w a B n f) (h' : DX w a' B' n f) (hn : n ≤ 4) :
    Calls Try.prog 53 #[.slice a n cap, .slice a' n cap'] w fun e w' => e = .returned (.bool true) ∧ Below w.heap.size w w' := by
  have H : Hid (DX w a B n f) := h
  have H' : Hid (DX w a' B' n f) := h'
  clear h h'
  go_enter Try.func53, Try.ntmps53
  go_wp2_with fail
  go_loopw [5] (fun i wr => ∃ k : Nat, k ≤ n ∧ i = .int .i64 k ∧ Below w.heap.size w wr) (fun i _ => n - (intOf i).toNat)
  case atStart => exact ⟨0, Nat.zero_le _, rfl, Below.refl _ _⟩
  case round =>
    obtain ⟨k, hk, rfl, hb⟩ := hrel
    by_cases hlt : k < n
    · obtain ⟨ea, c0, c1, c2, -⟩ := (H.out.below hb).at hlt
      obtain ⟨ea', d0, d1, d2, -⟩ := (H'.out.below hb).at hlt
      generalize (f k).1 = x at *
      generalize (f k).2 = y at *
      subst ea ea'
      have hlt' : (k : Int) < (n : Int) := by omega
      go_wp2_with fail
      go_region_with (first | (go_at_call 92; refine (eqDn_same _ _ _).mono ?_; rintro ee w1 ⟨rfl, b1⟩))
      all_goals
        have b1' := below_of_drew b1
        go_wp2
        go_roundw
        case rel => exact ⟨k + 1, by omega, by go_num, hb.trans (b1'.mono hb.size)⟩
        case measure => simp [intOf]; omega
    · go_wp2
      go_ret
      exact ⟨rfl, hb⟩

set_option maxHeartbeats 1600000 in
theorem markDS_any (a : Option Addr) (B n cap : Nat) (f : Nat → Int × Int) (k0 : Int) (w : World) (h : DX w a B n f) (hn : n ≤ 4) (hk0 : 0 ≤ k0) (hk : k0 ≤ 1000000) :
    Calls Try.prog 57 #[.slice a n cap, .int .i64 k0] w fun e w' => e = .returned (.int .i64 (k0 + 2 * n)) ∧ Touch (fun x => x = B ∧ 0 < n) w w' ∧ DX w' a B n (fun i => (k0 + 2 * i, k0 + 2 * i + 1)) := by
  have H : Hid (DX w a B n f) := h
  clear h
  go_enter Try.func57, Try.ntmps57
  go_wp2_with fail
  go_loopw [1, 5] (fun kv i wr => ∃ k : Nat, k ≤ n ∧ i = .int .i64 k ∧ kv = .int .i64 (k0 + 2 * k) ∧ Touch (fun x => x = B ∧ 0 < n) w wr ∧ DX wr a B n (fun i => if i < k then (k0 + 2 * i, k0 + 2 * i + 1) else f i)) (fun _ i _ => n - (intOf i).toNat)
  case atStart => exact ⟨0, Nat.zero_le _, rfl, by simp, Touch.refl _ _, H.out.ext (fun i _ => by simp)⟩
  case round =>
    obtain ⟨k, hk', rfl, rfl, t, d⟩ := hrel
    by_cases hlt : k < n
    · obtain ⟨ea, c0, c1, c2, fz⟩ := d.at hlt
      subst ea
      have f0 := fz (k * 3)
      have f1 := fz (k * 3 + 1)
      have dp := d.put hlt (k0 + 2 * k) (k0 + 2 * k + 1)
      have D : Hid (DX ((wr.setCell ⟨B, k * 3, none⟩ (.int .i64 (k0 + 2 * k))).setCell ⟨B, k * 3 + 1, none⟩ (.int .i64 (k0 + 2 * k + 1))) (some ⟨B, 0, none⟩) B n (fun i => if i < k + 1 then (k0 + 2 * i, k0 + 2 * i + 1) else f i)) := dp.ext (fun i hi => by
        by_cases e : i = k
        · subst e; simp
        · by_cases e2 : i < k
          · simp [e, e2, Nat.lt_succ_of_lt e2]
          · simp [e, e2, show ¬ i < k + 1 by omega])
      have T2 : Touch (fun x => x = B ∧ 0 < n) w ((wr.setCell ⟨B, k * 3, none⟩ (.int .i64 (k0 + 2 * k))).setCell ⟨B, k * 3 + 1, none⟩ (.int .i64 (k0 + 2 * k + 1))) := (t.setCell (B := B) ⟨rfl, by omega⟩ _).setCell (B := B) ⟨rfl, by omega⟩ _
      have hlt' : (k : Int) < (n : Int) := by omega
      clear d dp t fz
      go_wp2_with fail
      refine (mark_any none 0 0 B [] _ _ (.inl rfl) rfl (by omega) (by omega) (by omega)).mono ?_
      rintro ee w2 ⟨rfl, t2, -⟩
      have D2 := D.out.touch t2 (fun _ h => by omega)
      have T3 := T2.trans (t2.mono (T := fun x => x = B ∧ 0 < n) fun y hy => by omega)
      clear D T2 t2 c0 c1 c2 f0 f1
      go_wp2
      go_roundw
      case rel => exact ⟨k + 1, by omega, by go_num, by go_num, T3, D2⟩
      case measure => simp [intOf]; omega
    · obtain rfl : k = n := by omega
      go_wp2
      go_ret
      exact ⟨rfl, t, d.ext (fun i hi => by rw [if_pos hi])⟩

set_option maxHeartbeats 1600000 in
theorem heldDS_any (a : Option Addr) (B n cap : Nat) (k0 : Int) (w : World) (h : DX w a B n (fun i => (k0 + 2 * i, k0 + 2 * i + 1))) (hn : n ≤ 4) (hk0 : 0 ≤ k0) (hk : k0 ≤ 1000000) :
    Calls Try.prog 61 #[.slice a n cap, .int .i64 k0] w fun e w' => e = .returned (.int .i64 (k0 + 2 * n)) ∧ w' = w := by
  have H : Hid (DX w a B n (fun i => (k0 + 2 * i, k0 + 2 * i + 1))) := h
  clear h
  go_enter Try.func61, Try.ntmps61
  go_wp2_with fail
  go_loopw [1, 5] (fun kv i wr => ∃ k : Nat, k ≤ n ∧ i = .int .i64 k ∧ kv = .int .i64 (k0 + 2 * k) ∧ wr = w) (fun _ i _ => n - (intOf i).toNat)
  case atStart => exact ⟨0, Nat.zero_le _, rfl, by simp, rfl⟩
  case round =>
    obtain ⟨k, hk', rfl, rfl, rfl⟩ := hrel
    by_cases hlt : k < n
    · obtain ⟨ea, c0, c1, c2, -⟩ := H.out.at hlt
      subst ea
      simp only at c0 c1
      have hlt' : (k : Int) < (n : Int) := by omega
      go_wp2_with fail
      refine (held_any none 0 0 _ _ (by exact ints0 _ _) (by omega) (by omega) (by omega)).mono ?_
      rintro ee w2 ⟨rfl, rfl⟩
      have hp : 0 ≤ k0 + 2 * (k : Int) + 1 + 1 := by omega
      go_wp2
      go_roundw
      case rel => exact ⟨k + 1, by omega, by go_num, by go_num, trivial⟩
      case measure => simp [intOf]; omega
    · obtain rfl : k = n := by omega
      go_wp2
      go_ret
      exact ⟨rfl, rfl⟩

end Go.Proofs.Ythhfjodggmmcoaa
