/-
  Slices of calls that were done, in memory of their own: marked, and found again. At most 1048576 of them.
-/
import Derived.Test.YtgiemeiilagfeaaLogS
import Derived.Test.YtgiemeiilagfeaaOwn0
import Derived.Test.YtgiemeiilagfeaaMarks
namespace Go.Proofs.Ytgiemeiilagfeaa
open Go.RowKit Go.Deep
set_option linter.unusedVariables false
set_option maxRecDepth 100000

/-- The first n of block G, free to be written; each list in a block of its own. -/
structure LgL (W : World) (a : Option Addr) (G n : Nat) (f : Nat → LgV) (bs ds : Nat → Nat) : Prop where
  g : 0 < n → a = some ⟨G, 0, none⟩ ∧ ∃ cur : List Value, Cel W G cur 52 ∧ ∀ j, j < n → ∀ r, r < 6 → cur[j * 6 + r]? = (f j).cs[r]?
  l : ∀ j, j < n → OwnX W (f j).t.a (bs j) (f j).t.n (f j).t.x ∧ (0 < (f j).t.n → bs j ≠ G) ∧ (f j).t.n ≤ 1048576
  u : ∀ j, j < n → OwnX W (f j).u.a (ds j) (f j).u.n (f j).u.x ∧ (0 < (f j).u.n → ds j ≠ G) ∧ (f j).u.n ≤ 1048576
  d : ∀ i j, i < n → j < n → i ≠ j → 0 < (f i).t.n → 0 < (f j).t.n → bs i ≠ bs j
  e : ∀ i j, i < n → j < n → i ≠ j → 0 < (f i).u.n → 0 < (f j).u.n → ds i ≠ ds j
  m : ∀ i j, i < n → j < n → 0 < (f i).t.n → 0 < (f j).u.n → bs i ≠ ds j
section
variable {W W' : World} {a : Option Addr} {G n : Nat} {f : Nat → LgV} {bs ds : Nat → Nat}
theorem LgL.zero (W : World) (a : Option Addr) (G : Nat) (f : Nat → LgV) (bs ds : Nat → Nat) : LgL W a G 0 f bs ds := ⟨fun h => by omega, fun j hj => by omega, fun j hj => by omega, fun i j hi => by omega, fun i j hi => by omega, fun i j hi => by omega⟩
theorem LgL.lt (h : LgL W a G n f bs ds) (hn : 0 < n) : G < W.heap.size := by
  obtain ⟨_, cur, hc, _⟩ := h.g hn
  exact hc.lt
theorem LgL.touch {S : Nat → Prop} (h : LgL W a G n f bs ds) (t : Touch S W W') (hG : 0 < n → ¬ S G) (hb : ∀ j, j < n → 0 < (f j).t.n → ¬ S (bs j)) (hd : ∀ j, j < n → 0 < (f j).u.n → ¬ S (ds j)) : LgL W' a G n f bs ds :=
  ⟨fun hn => by
    obtain ⟨e, cur, hc, hv⟩ := h.g hn
    exact ⟨e, cur, hc.touch t (hG hn), hv⟩, fun j hj => by
    obtain ⟨h1, h2, h3⟩ := h.l j hj
    exact ⟨h1.touch t (hb j hj), h2, h3⟩, fun j hj => by
    obtain ⟨h1, h2, h3⟩ := h.u j hj
    exact ⟨h1.touch t (hd j hj), h2, h3⟩, h.d, h.e, h.m⟩
theorem LgL.below (h : LgL W a G n f bs ds) (b : Below W.heap.size W W') : LgL W' a G n f bs ds := h.touch (S := fun _ => False) (Touch.of b) (fun _ h => h) (fun _ _ _ h => h) (fun _ _ _ h => h)
theorem LgL.ext {g : Nat → LgV} (h : LgL W a G n f bs ds) (e : ∀ i, i < n → f i = g i) : LgL W a G n g bs ds :=
  ⟨fun hn => by
    obtain ⟨e1, cur, hc, hv⟩ := h.g hn
    exact ⟨e1, cur, hc, fun j hj r hr => by rw [← e j hj]; exact hv j hj r hr⟩, fun j hj => by rw [← e j hj]; exact h.l j hj, fun j hj => by rw [← e j hj]; exact h.u j hj, fun i j hi hj hne h1 h2 => h.d i j hi hj hne (by rw [e i hi]; exact h1) (by rw [e j hj]; exact h2), fun i j hi hj hne h1 h2 => h.e i j hi hj hne (by rw [e i hi]; exact h1) (by rw [e j hj]; exact h2), fun i j hi hj h1 h2 => h.m i j hi hj (by rw [e i hi]; exact h1) (by rw [e j hj]; exact h2)⟩
theorem LgL.sg {fs : List LgV} (h : LgL W a G n (fun i => fs[i]?.getD noLg) bs ds) (hn : fs.length = n) : LgSG W a fs := fun i hi => by
  obtain ⟨e1, cur, hc, hv⟩ := h.g (by omega)
  obtain ⟨o, _, z⟩ := h.l i (by omega)
  obtain ⟨o', _, z'⟩ := h.u i (by omega)
  exact ⟨G, 0, e1, fun r hr => by rw [Nat.zero_add, hc.cell]; exact hv i (by omega) r hr, ⟨o.ints, z⟩, ⟨o'.ints, z'⟩, trivial⟩
theorem LgL.at (h : LgL W a G n f bs ds) {k : Nat} (hk : k < n) : a = some ⟨G, 0, none⟩ ∧ (∀ r, r < 6 → W.cell? ⟨G, k * 6 + r, none⟩ = (f k).cs[r]?) ∧ ∀ i, W.frozen? ⟨G, i, none⟩ = false := by
  obtain ⟨e1, cur, hc, hv⟩ := h.g (by omega)
  exact ⟨e1, fun r hr => (hc.cell _).trans (hv k hk r hr), fun i => hc.free i⟩
/-- One element otherwise, with lists as long as they were. -/
theorem LgL.upd {k : Nat} {s : LgV} (h : LgL W a G n f bs ds) (hk : k < n) (st : s.t.n = (f k).t.n) (su : s.u.n = (f k).u.n)
    (hg : 0 < n → ∃ cur : List Value, Cel W' G cur 52 ∧ (∀ r, r < 6 → cur[k * 6 + r]? = s.cs[r]?) ∧ ∀ j, j < n → j ≠ k → ∀ r, r < 6 → cur[j * 6 + r]? = (f j).cs[r]?)
    (ht : OwnX W' s.t.a (bs k) s.t.n s.t.x) (hu : OwnX W' s.u.a (ds k) s.u.n s.u.x)
    (hl : ∀ j, j < n → j ≠ k → OwnX W' (f j).t.a (bs j) (f j).t.n (f j).t.x ∧ OwnX W' (f j).u.a (ds j) (f j).u.n (f j).u.x) :
    LgL W' a G n (fun i => if i = k then s else f i) bs ds := by
  have et : ∀ i, (if i = k then s else f i).t.n = (f i).t.n := fun i => by
    by_cases e : i = k
    · subst e; rw [if_pos rfl]; exact st
    · rw [if_neg e]
  have eu : ∀ i, (if i = k then s else f i).u.n = (f i).u.n := fun i => by
    by_cases e : i = k
    · subst e; rw [if_pos rfl]; exact su
    · rw [if_neg e]
  refine ⟨fun hn => ?_, fun j hj => ?_, fun j hj => ?_, fun i j hi hj hne h1 h2 => ?_, fun i j hi hj hne h1 h2 => ?_, fun i j hi hj h1 h2 => ?_⟩
  · obtain ⟨cur, hc, h1, h2⟩ := hg hn
    refine ⟨(h.g hn).1, cur, hc, fun j hj r hr => ?_⟩
    (try dsimp only)
    by_cases e : j = k
    · subst e; rw [if_pos rfl]; exact h1 r hr
    · rw [if_neg e]; exact h2 j hj e r hr
  · have h0 := h.l j hj
    (try dsimp only)
    by_cases e : j = k
    · subst e; rw [if_pos rfl]; exact ⟨ht, fun h1 => h0.2.1 (by omega), by omega⟩
    · rw [if_neg e]; exact ⟨(hl j hj e).1, h0.2⟩
  · have h0 := h.u j hj
    (try dsimp only)
    by_cases e : j = k
    · subst e; rw [if_pos rfl]; exact ⟨hu, fun h1 => h0.2.1 (by omega), by omega⟩
    · rw [if_neg e]; exact ⟨(hl j hj e).2, h0.2⟩
  · (try dsimp only at h1 h2)
    rw [et] at h1 h2
    exact h.d i j hi hj hne h1 h2
  · (try dsimp only at h1 h2)
    rw [eu] at h1 h2
    exact h.e i j hi hj hne h1 h2
  · (try dsimp only at h1 h2)
    rw [et] at h1
    rw [eu] at h2
    exact h.m i j hi hj h1 h2
theorem LgL.put (h : LgL W a G n f bs ds) {k : Nat} (hk : k < n) (y0 y1 y2 : Int) : LgL (((W.setCell ⟨G, k * 6, none⟩ (.int .i64 y0)).setCell ⟨G, k * 6 + 1, none⟩ (.int .i64 y1)).setCell ⟨G, k * 6 + 2, none⟩ (.int .i64 y2)) a G n (fun i => if i = k then ⟨y0, y1, y2, (f k).t, (f k).e, (f k).u⟩ else f i) bs ds := by
  obtain ⟨e1, cur, hc, hv⟩ := h.g (by omega)
  have T : Touch (fun x => x = G) W (((W.setCell ⟨G, k * 6, none⟩ (.int .i64 y0)).setCell ⟨G, k * 6 + 1, none⟩ (.int .i64 y1)).setCell ⟨G, k * 6 + 2, none⟩ (.int .i64 y2)) := (((Touch.refl (fun x => x = G) W).setCell rfl _).setCell rfl _).setCell rfl _
  have hlen : k * 6 + 5 < cur.length := by
    have h2 := hv k hk 5 (by omega)
    have e : (f k).cs[5]? = some (f k).u.v := rfl
    rw [e] at h2
    exact (List.getElem?_eq_some_iff.1 h2).1
  refine h.upd hk rfl rfl (fun _ => ⟨_, (((hc.set (k * 6) _).set (k * 6 + 1) _).set (k * 6 + 2) _), fun r hr => ?_, fun j hj hne r hr => ?_⟩) ((h.l k hk).1.touch T (fun h0 e => (h.l k hk).2.1 h0 e)) ((h.u k hk).1.touch T (fun h0 e => (h.u k hk).2.1 h0 e)) (fun j hj _ => ⟨(h.l j hj).1.touch T (fun h0 e => (h.l j hj).2.1 h0 e), (h.u j hj).1.touch T (fun h0 e => (h.u j hj).2.1 h0 e)⟩)
  · have hcase : r = 0 ∨ r = 1 ∨ r = 2 ∨ r = 3 ∨ r = 4 ∨ r = 5 := by omega
    rcases hcase with rfl | rfl | rfl | rfl | rfl | rfl
    · simp only [Nat.add_zero]
      rw [List.getElem?_set_ne (by omega), List.getElem?_set_ne (by omega), List.getElem?_set_self (by omega)]; rfl
    · rw [List.getElem?_set_ne (by omega), List.getElem?_set_self (by simp; omega)]; rfl
    · rw [List.getElem?_set_self (by simp; omega)]; rfl
    · rw [List.getElem?_set_ne (by omega), List.getElem?_set_ne (by omega), List.getElem?_set_ne (by omega)]; exact hv k hk 3 (by omega)
    · rw [List.getElem?_set_ne (by omega), List.getElem?_set_ne (by omega), List.getElem?_set_ne (by omega)]; exact hv k hk 4 (by omega)
    · rw [List.getElem?_set_ne (by omega), List.getElem?_set_ne (by omega), List.getElem?_set_ne (by omega)]; exact hv k hk 5 (by omega)
  · have hr' : j * 6 + r < k * 6 ∨ k * 6 + 6 ≤ j * 6 + r := by
      rcases Nat.lt_or_gt_of_ne hne with h | h
      · left; omega
      · right; omega
    rw [List.getElem?_set_ne (by omega), List.getElem?_set_ne (by omega), List.getElem?_set_ne (by omega)]
    exact hv j hj r hr
theorem LgL.putE (h : LgL W a G n f bs ds) {k : Nat} (hk : k < n) (y0 : Int) : LgL (W.setCell ⟨G, k * 6 + 4, none⟩ (.int .i64 y0)) a G n (fun i => if i = k then ⟨(f k).x, (f k).q, (f k).c, (f k).t, y0, (f k).u⟩ else f i) bs ds := by
  obtain ⟨e1, cur, hc, hv⟩ := h.g (by omega)
  have T : Touch (fun x => x = G) W (W.setCell ⟨G, k * 6 + 4, none⟩ (.int .i64 y0)) := (Touch.refl (fun x => x = G) W).setCell rfl _
  have hlen : k * 6 + 5 < cur.length := by
    have h2 := hv k hk 5 (by omega)
    have e : (f k).cs[5]? = some (f k).u.v := rfl
    rw [e] at h2
    exact (List.getElem?_eq_some_iff.1 h2).1
  refine h.upd hk rfl rfl (fun _ => ⟨_, (hc.set (k * 6 + 4) _), fun r hr => ?_, fun j hj hne r hr => ?_⟩) ((h.l k hk).1.touch T (fun h0 e => (h.l k hk).2.1 h0 e)) ((h.u k hk).1.touch T (fun h0 e => (h.u k hk).2.1 h0 e)) (fun j hj _ => ⟨(h.l j hj).1.touch T (fun h0 e => (h.l j hj).2.1 h0 e), (h.u j hj).1.touch T (fun h0 e => (h.u j hj).2.1 h0 e)⟩)
  · have hcase : r = 0 ∨ r = 1 ∨ r = 2 ∨ r = 3 ∨ r = 4 ∨ r = 5 := by omega
    rcases hcase with rfl | rfl | rfl | rfl | rfl | rfl
    · rw [List.getElem?_set_ne (by omega)]; exact hv k hk 0 (by omega)
    · rw [List.getElem?_set_ne (by omega)]; exact hv k hk 1 (by omega)
    · rw [List.getElem?_set_ne (by omega)]; exact hv k hk 2 (by omega)
    · rw [List.getElem?_set_ne (by omega)]; exact hv k hk 3 (by omega)
    · rw [List.getElem?_set_self (by omega)]; rfl
    · rw [List.getElem?_set_ne (by omega)]; exact hv k hk 5 (by omega)
  · have hr' : j * 6 + r < k * 6 ∨ k * 6 + 6 ≤ j * 6 + r := by
      rcases Nat.lt_or_gt_of_ne hne with h | h
      · left; omega
      · right; omega
    rw [List.getElem?_set_ne (by omega)]
    exact hv j hj r hr
theorem LgL.putT (h : LgL W a G n f bs ds) {k : Nat} (hk : k < n) {X : List Int} (t : Touch (fun x => x = bs k ∧ 0 < (f k).t.n) W W') (o : OwnX W' (f k).t.a (bs k) (f k).t.n X) : LgL W' a G n (fun i => if i = k then ⟨(f k).x, (f k).q, (f k).c, ⟨(f k).t.a, (f k).t.n, (f k).t.cap, X⟩, (f k).e, (f k).u⟩ else f i) bs ds := by
  obtain ⟨e1, cur, hc, hv⟩ := h.g (by omega)
  refine h.upd hk rfl rfl (fun _ => ⟨cur, hc.touch t (fun hh => (h.l k hk).2.1 hh.2 hh.1.symm), fun r hr => hv k hk r hr, fun j hj _ r hr => hv j hj r hr⟩) o ((h.u k hk).1.touch t (fun h0 hh => h.m k k hk hk hh.2 h0 hh.1.symm)) (fun j hj hne => ⟨(h.l j hj).1.touch t (fun h0 hh => h.d j k hj hk hne h0 hh.2 hh.1), (h.u j hj).1.touch t (fun h0 hh => h.m k j hk hj hh.2 h0 hh.1.symm)⟩)
theorem LgL.putU (h : LgL W a G n f bs ds) {k : Nat} (hk : k < n) {X : List Int} (t : Touch (fun x => x = ds k ∧ 0 < (f k).u.n) W W') (o : OwnX W' (f k).u.a (ds k) (f k).u.n X) : LgL W' a G n (fun i => if i = k then ⟨(f k).x, (f k).q, (f k).c, (f k).t, (f k).e, ⟨(f k).u.a, (f k).u.n, (f k).u.cap, X⟩⟩ else f i) bs ds := by
  obtain ⟨e1, cur, hc, hv⟩ := h.g (by omega)
  refine h.upd hk rfl rfl (fun _ => ⟨cur, hc.touch t (fun hh => (h.u k hk).2.1 hh.2 hh.1.symm), fun r hr => hv k hk r hr, fun j hj _ r hr => hv j hj r hr⟩) ((h.l k hk).1.touch t (fun h0 hh => h.m k k hk hk h0 hh.2 hh.1)) o (fun j hj hne => ⟨(h.l j hj).1.touch t (fun h0 hh => h.m j k hj hk h0 hh.2 hh.1), (h.u j hj).1.touch t (fun h0 hh => h.e j k hj hk hne h0 hh.2 hh.1)⟩)
end

/-- How many marks lie ahead of one. -/
def offLg (f : Nat → LgV) : Nat → Nat
  | 0 => 0
  | j + 1 => offLg f j + (4 + (f j).t.n + (f j).u.n)
def mkLg (k0 : Int) (f : Nat → LgV) (i : Nat) : LgV := ⟨k0 + offLg f i, k0 + offLg f i + 1, k0 + offLg f i + 1 + 1, ⟨(f i).t.a, (f i).t.n, (f i).t.cap, ramp (k0 + offLg f i + 1 + 1 + 1) (f i).t.n⟩, k0 + offLg f i + 1 + 1 + 1 + (f i).t.n, ⟨(f i).u.a, (f i).u.n, (f i).u.cap, ramp (k0 + offLg f i + 1 + 1 + 1 + (f i).t.n + 1) (f i).u.n⟩⟩
theorem offLg_mono (f : Nat → LgV) {i j : Nat} (h : i ≤ j) : offLg f i ≤ offLg f j := by
  induction h with
  | refl => exact Nat.le_refl _
  | step _ ih => simp only [offLg]; omega

set_option maxHeartbeats 3200000 in
theorem markLgL_any (a : Option Addr) (G n cap : Nat) (f : Nat → LgV) (bs ds : Nat → Nat) (k0 : Int) (w : World) (h : LgL w a G n f bs ds) (hn : n ≤ 1048576) (hk0 : 0 ≤ k0) (hk : k0 + offLg f n ≤ 100000000000000) :
    Calls Try.prog 10 #[.slice a n cap, .int .i64 k0] w fun e w' => e = .returned (.int .i64 (k0 + offLg f n)) ∧ Touch (fun x => (0 < n ∧ x = G) ∨ (∃ j, j < n ∧ 0 < (f j).t.n ∧ x = bs j) ∨ ∃ j, j < n ∧ 0 < (f j).u.n ∧ x = ds j) w w' ∧ LgL w' a G n (mkLg k0 f) bs ds := by
  have H : Hid (LgL w a G n f bs ds) := h
  have HO : Hid (∀ i j, i ≤ j → offLg f i ≤ offLg f j) := fun i j h => offLg_mono f h
  have HK : Hid (k0 + offLg f n ≤ 100000000000000) := hk
  clear h hk
  go_enter Try.func10, Try.ntmps10
  go_wp2_with fail
  go_loopw [1, 5] (fun kv i wr => ∃ k : Nat, k ≤ n ∧ i = .int .i64 k ∧ kv = .int .i64 (k0 + offLg f k) ∧ Touch (fun x => (0 < n ∧ x = G) ∨ (∃ j, j < n ∧ 0 < (f j).t.n ∧ x = bs j) ∨ ∃ j, j < n ∧ 0 < (f j).u.n ∧ x = ds j) w wr ∧ LgL wr a G n (fun i => if i < k then mkLg k0 f i else f i) bs ds) (fun _ i _ => n - (intOf i).toNat)
  case atStart => exact ⟨0, Nat.zero_le _, rfl, by simp [offLg], Touch.refl _ _, H.out.ext (fun i _ => by simp)⟩
  case round =>
    obtain ⟨k, hk', rfl, rfl, t, d⟩ := hrel
    by_cases hlt : k < n
    · have efk : (if k < k then mkLg k0 f k else f k) = f k := if_neg (by omega)
      obtain ⟨F, hF⟩ : ∃ F : Nat → LgV, F = (fun i => if i < k then mkLg k0 f i else f i) := ⟨_, rfl⟩
      have hFk : F k = f k := by rw [hF]; exact efk
      rw [← hF] at d
      obtain ⟨ea, hcs, fz⟩ := d.at hlt
      rw [hFk] at hcs
      subst ea
      obtain ⟨e0, e1, e2, e3, e4, e5⟩ := cellsLg hcs
      have b1 := HO.out (k + 1) n (by omega)
      have b2 : offLg f (k + 1) = offLg f k + (4 + (f k).t.n + (f k).u.n) := rfl
      have b3 := HK.out
      obtain ⟨kk, hkk⟩ : ∃ kk : Int, kk = k0 + offLg f k := ⟨_, rfl⟩
      have HKK : Hid _ := hkk
      have hkb : 0 ≤ kk ∧ kk ≤ 100000000000000 := by omega
      rw [← hkk]
      have d1 := d.put hlt kk (kk + 1) (kk + 1 + 1)
      have HF : Hid (F = (fun i => if i < k then mkLg k0 f i else f i)) := hF
      have HFk : Hid (F k = f k) := hFk
      rw [hFk] at d1
      have ol := (d1.l k hlt)
      (try dsimp only at ol)
      rw [if_pos rfl] at ol
      obtain ⟨o, hne, hz⟩ := ol
      have T2 : Touch (fun x => (0 < n ∧ x = G) ∨ (∃ j, j < n ∧ 0 < (f j).t.n ∧ x = bs j) ∨ ∃ j, j < n ∧ 0 < (f j).u.n ∧ x = ds j) w (((wr.setCell ⟨G, k * 6, none⟩ (.int .i64 kk)).setCell ⟨G, k * 6 + 1, none⟩ (.int .i64 (kk + 1))).setCell ⟨G, k * 6 + 2, none⟩ (.int .i64 (kk + 1 + 1))) := ((t.setCell (B := G) (Or.inl ⟨by omega, rfl⟩) _).setCell (B := G) (Or.inl ⟨by omega, rfl⟩) _).setCell (B := G) (Or.inl ⟨by omega, rfl⟩) _
      generalize hfk : f k = ft at *
      have HFT : Hid (f k = ft) := hfk
      obtain ⟨fx, fq, fc, ⟨ta, tn, tc, tx⟩, fe, ⟨ua, un, uc, ux⟩⟩ := ft
      have e3' : wr.cell? ⟨G, k * 6 + 3, none⟩ = some (.slice ta tn tc) := e3
      have f0 := fz (k * 6)
      have f1 := fz (k * 6 + 1)
      have f2 := fz (k * 6 + 2)
      have o2 : OwnX (((wr.setCell ⟨G, k * 6, none⟩ (.int .i64 kk)).setCell ⟨G, k * 6 + 1, none⟩ (.int .i64 (kk + 1))).setCell ⟨G, k * 6 + 2, none⟩ (.int .i64 (kk + 1 + 1))) ta (bs k) tn tx := o
      have hz' : tn ≤ 1048576 := hz
      have hb3 : kk + 1 + 1 + 1 + tn + 1 + un ≤ 100000000000000 := by
        have h1 : (⟨fx, fq, fc, ⟨ta, tn, tc, tx⟩, fe, ⟨ua, un, uc, ux⟩⟩ : LgV).t.n = tn := rfl
        have h2 : (⟨fx, fq, fc, ⟨ta, tn, tc, tx⟩, fe, ⟨ua, un, uc, ux⟩⟩ : LgV).u.n = un := rfl
        rw [h1, h2] at b2
        omega
      have hlt' : (k : Int) < (n : Int) := by omega
      obtain ⟨hkb1, hkb2⟩ := hkb
      have HD1 : Hid (LgL _ _ _ _ _ _ _) := d1
      clear o hz hne hfk efk hcs fz b1 b2 b3 hkk e3 e4 e5 hF hFk d t d1
      go_wp2_with fail
      refine (markX_any _ _ _ (bs k) tx _ _ o2 hz' (by omega) (by omega)).mono ?_
      rintro ee w2 ⟨rfl, t2, o3⟩
      have d2 := HD1.out.putT hlt (X := ramp (kk + 1 + 1 + 1) tn) (W' := w2) (by simpa using t2) (by simpa using o3)
      have T3 := T2.trans (t2.mono (T := (fun x => (0 < n ∧ x = G) ∨ (∃ j, j < n ∧ 0 < (f j).t.n ∧ x = bs j) ∨ ∃ j, j < n ∧ 0 < (f j).u.n ∧ x = ds j)) fun y hy => Or.inr (Or.inl ⟨k, hlt, by rw [HFT.out]; exact hy.2, hy.1⟩))
      have T3' := T3.setCell (B := G) (i := k * 6 + 4) (Or.inl ⟨by omega, rfl⟩) (.int .i64 (kk + 1 + 1 + 1 + tn))
      obtain ⟨-, hcs2, fz2⟩ := d2.at hlt
      have d2' := d2.putE hlt (kk + 1 + 1 + 1 + tn)
      have ou := d2'.u k hlt
      (try dsimp only at hcs2 ou d2')
      simp only [if_true] at hcs2 ou
      obtain ⟨o4, hne4, hz4⟩ := ou
      obtain ⟨x0, x1, x2, x3, x4, x5⟩ := cellsLg hcs2
      have x4' : w2.cell? ⟨G, k * 6 + 4, none⟩ = some (.int .i64 fe) := x4
      have x5' : w2.cell? ⟨G, k * 6 + 5, none⟩ = some (.slice ua un uc) := x5
      have f4 := fz2 (k * 6 + 4)
      have o5 : OwnX (w2.setCell ⟨G, k * 6 + 4, none⟩ (.int .i64 (kk + 1 + 1 + 1 + tn))) ua (ds k) un ux := o4
      have hz5 : un ≤ 1048576 := hz4
      have HD2 : Hid (LgL _ _ _ _ _ _ _) := d2'
      clear hcs2 fz2 o4 hne4 hz4 x0 x1 x2 x3 x4 x5 e0 e1 e2 e3' f0 f1 f2 T2 t2 o3 HD1 d2 d2' o2 T3
      go_wp2_with fail
      refine (markX_any _ _ _ (ds k) ux _ _ o5 hz5 (by omega) (by omega)).mono ?_
      rintro ee w3 ⟨rfl, t3, o6⟩
      have d3 := HD2.out.putU hlt (X := ramp (kk + 1 + 1 + 1 + tn + 1) un) (W' := w3) (by simpa using t3) (by simpa using o6)
      have T4 := T3'.trans (t3.mono (T := (fun x => (0 < n ∧ x = G) ∨ (∃ j, j < n ∧ 0 < (f j).t.n ∧ x = bs j) ∨ ∃ j, j < n ∧ 0 < (f j).u.n ∧ x = ds j)) fun y hy => Or.inr (Or.inr ⟨k, hlt, by rw [HFT.out]; exact hy.2, hy.1⟩))
      have D4 : LgL w3 (some ⟨G, 0, none⟩) G n (fun i => if i < k + 1 then mkLg k0 f i else f i) bs ds := d3.ext (fun i hi => by
        by_cases e : i = k
        · subst e
          have hk2 : (if i < i + 1 then mkLg k0 f i else f i) = mkLg k0 f i := if_pos (by omega)
          rw [hk2]
          simp only [if_true, mkLg, HFT.out, ← HKK.out]
        · rw [HF.out]
          simp only [e, if_false]
          by_cases e2 : i < k
          · rw [if_pos e2, if_pos (by omega)]
          · rw [if_neg e2, if_neg (by omega)])
      have HE : Hid (k0 + (offLg f (k + 1) : Nat) = kk + 1 + 1 + 1 + tn + 1 + un) := by
        show _ = _
        have h1 : offLg f (k + 1) = offLg f k + (4 + (f k).t.n + (f k).u.n) := rfl
        have h2 : (f k).t.n = tn := by rw [HFT.out]
        have h3 : (f k).u.n = un := by rw [HFT.out]
        rw [HKK.out, h1, h2, h3]
        omega
      clear HD2 d3 T3' t3 o6 o5 x4' x5' f4
      go_wp2
      go_roundw
      case rel => exact ⟨k + 1, by omega, by go_num, by rw [HE.out], T4, D4⟩
      case measure => simp [intOf]; omega
    · obtain rfl : k = n := by omega
      go_wp2
      go_ret
      exact ⟨rfl, t, d.ext (fun i hi => by rw [if_pos hi])⟩

set_option maxHeartbeats 3200000 in
theorem heldLgL_any (a : Option Addr) (G n cap : Nat) (f : Nat → LgV) (bs ds : Nat → Nat) (k0 : Int) (w : World) (h : LgL w a G n (mkLg k0 f) bs ds) (hn : n ≤ 1048576) (hk0 : 0 ≤ k0) (hk : k0 + offLg f n ≤ 100000000000000) :
    Calls Try.prog 11 #[.slice a n cap, .int .i64 k0] w fun e w' => e = .returned (.int .i64 (k0 + offLg f n)) ∧ w' = w := by
  have H : Hid (LgL w a G n (mkLg k0 f) bs ds) := h
  have HO : Hid (∀ i j, i ≤ j → offLg f i ≤ offLg f j) := fun i j h => offLg_mono f h
  have HK : Hid (k0 + offLg f n ≤ 100000000000000) := hk
  clear h hk
  go_enter Try.func11, Try.ntmps11
  go_wp2_with fail
  go_loopw [1, 5] (fun kv i wr => ∃ k : Nat, k ≤ n ∧ i = .int .i64 k ∧ kv = .int .i64 (k0 + offLg f k) ∧ wr = w) (fun _ i _ => n - (intOf i).toNat)
  case atStart => exact ⟨0, Nat.zero_le _, rfl, by simp [offLg], rfl⟩
  case round =>
    obtain ⟨k, hk', rfl, rfl, rfl⟩ := hrel
    by_cases hlt : k < n
    · obtain ⟨ea, hcs, -⟩ := H.out.at hlt
      obtain ⟨o, -, hz⟩ := H.out.l k hlt
      obtain ⟨o', -, hz'⟩ := H.out.u k hlt
      subst ea
      obtain ⟨e0, e1, e2, e3, e4, e5⟩ := cellsLg hcs
      have b1 := HO.out (k + 1) n (by omega)
      have b2 : offLg f (k + 1) = offLg f k + (4 + (f k).t.n + (f k).u.n) := rfl
      have b3 := HK.out
      simp only [mkLg] at e0 e1 e2 e3 e4 e5 o hz o' hz'
      obtain ⟨kk, hkk⟩ : ∃ kk : Int, kk = k0 + offLg f k := ⟨_, rfl⟩
      have HKK : Hid _ := hkk
      have hkb : 0 ≤ kk ∧ kk ≤ 100000000000000 := by omega
      have hkn : 0 ≤ kk + 1 + 1 + 1 + (f k).t.n := by omega
      have hkm : 0 ≤ kk + 1 + 1 + 1 + (f k).t.n + 1 + (f k).u.n ∧ kk + 1 + 1 + 1 + (f k).t.n + 1 + (f k).u.n ≤ 100000000000000 := by omega
      rw [← hkk] at e0 e1 e2 e3 e4 e5 o o' ⊢
      generalize hft : f k = ft at *
      have HFT : Hid (f k = ft) := hft
      obtain ⟨fx, fq, fc, ⟨ta, tn, tc, tx⟩, fe, ⟨ua, un, uc, ux⟩⟩ := ft
      simp only [IV.v] at e3 e5 o o' hz hz' hkn hkm
      have hi3 := o.ints
      have hi4 := o'.ints
      have hlt' : (k : Int) < (n : Int) := by omega
      obtain ⟨hkb1, hkb2⟩ := hkb
      obtain ⟨hkm1, hkm2⟩ := hkm
      have HE : Hid (k0 + (offLg f (k + 1) : Nat) = kk + 1 + 1 + 1 + tn + 1 + un) := by
        show _ = _
        have h1 : offLg f (k + 1) = offLg f k + (4 + (f k).t.n + (f k).u.n) := rfl
        have h2 : (f k).t.n = tn := by rw [HFT.out]
        have h3 : (f k).u.n = un := by rw [HFT.out]
        rw [HKK.out, h1, h2, h3]
        omega
      clear hcs o o' hft b1 b2 b3 hkk
      go_wp2_with fail
      refine (held_any _ _ _ _ _ hi3 hz (by omega) (by omega)).mono ?_
      rintro ee w2 ⟨rfl, rfl⟩
      go_wp2_with fail
      refine (held_any _ _ _ _ _ hi4 hz' (by omega) (by omega)).mono ?_
      rintro ee w2 ⟨rfl, rfl⟩
      go_wp2
      go_roundw
      case rel => exact ⟨k + 1, by omega, by go_num, by rw [HE.out], trivial⟩
      case measure => simp [intOf]; omega
    · obtain rfl : k = n := by omega
      go_wp2
      go_ret
      exact ⟨rfl, rfl⟩

end Go.Proofs.Ytgiemeiilagfeaa
