/-
  The parts that must be kept an eye on: both texts at copies of the acts.
-/
import Derived.Test.YtomlnlcgfdojnaaXIntSM
import Derived.Test.YtomlnlcgfdojnaaPackI
namespace Go.Proofs.Ytomlnlcgfdojnaa
open Go.RowKit
set_option linter.unusedVariables false
set_option maxRecDepth 100000

set_option maxHeartbeats 1600000 in
theorem scatforms_any (ad : Option Addr) (N cap : Nat) (ss : List L2V) (w : World) (hN : ss.length = N) (hF : LSG w ad ss) (hN1 : N ≤ 1048576) :
    Calls Try.prog 30 #[.slice ad N cap] w fun e w' => Below w.heap.size w w' ∧ ((catB N ss = false ∧ ∃ G, e = .returned (.slice (some ⟨G, 0, none⟩) 0 0)) ∨ (catB N ss = true ∧ ∃ G cG ts nt, e = .returned (.slice (some ⟨G, 0, none⟩) nt cG) ∧ ts.length = nt ∧ ISG w' (some ⟨G, 0, none⟩) ts ∧ ts.map IV.x = catP ss ∧ nt ≤ 600000)) := by
  have HN : Hid (ss.length = N) := hN
  clear hN
  obtain ⟨u, hu⟩ : ∃ u, catB N ss = u := ⟨_, rfl⟩
  have HU : Hid (catB N ss = u) := hu
  go_enter Try.func30, Try.ntmps30
  go_wp2_with fail
  refine (scat_any _ _ _ ss _ HN.out hF hN1).mono ?_
  rintro e w1 ⟨rfl, b1⟩
  rw [hu]
  clear hu
  cases u with
  | false =>
    have B2 := b1.alloc b1.size (.cells #[] 50)
    go_wp2
    go_ret
    exact ⟨B2, .inl ⟨HU.out, _, rfl⟩⟩
  | true =>
    go_wp2_with fail
    refine (sboth_any _ _ _ ss _ HN.out (hF.below b1) (catB_parts HU.out).2 (catB_parts HU.out).1).mono ?_
    rintro e w2 ⟨G, cG, ts, nt, Gp, cp, rfl, hl, jp, hx, hnt, o, lGp⟩
    have B2 := b1.trans (jp.b.mono b1.size)
    have hg := jp.g
    have HX : Hid _ := hx
    have HL : Hid _ := hl
    clear jp hx hl o
    go_wp2
    go_ret
    exact ⟨B2, .inr ⟨HU.out, G, cG, ts, nt, rfl, HL.out, hg, HX.out, hnt⟩⟩

/-- What is told of acts. -/
def catT (v : Bool) (ps : List (List Int)) : List (List Int) := if v then ps else []
def tF (T : List (List Int)) (i : Nat) : List Int := T[i]?.getD []
theorem map_at {ts : List IV} {T : List (List Int)} (h : ts.map IV.x = T) {i : Nat} (hi : i < T.length) : (ts[i]?.getD noI).x = tF T i := by
  subst h
  rw [List.length_map] at hi
  rw [tF, List.getElem?_map, List.getElem?_eq_getElem hi]; rfl
theorem map_len {ts : List IV} {T : List (List Int)} (h : ts.map IV.x = T) : ts.length = T.length := by rw [← h, List.length_map]
/-- The program's answer, in memory of its own. -/
def UF (W : World) (a : Option Addr) (lo : Nat) (T : List (List Int)) (f : Nat → List Int) : Prop := ∃ G ts bs, SL W a G T.length ts bs f ∧ ts.map IV.x = T ∧ (∀ i, i < T.length → (ts[i]?.getD noI).n = 3) ∧ (0 < T.length → lo ≤ G) ∧ ∀ j, j < T.length → lo ≤ bs j
theorem UF.below {W W' : World} {a : Option Addr} {lo : Nat} {T : List (List Int)} {f : Nat → List Int} (h : UF W a lo T f) (b : Below W.heap.size W W') : UF W' a lo T f := by
  obtain ⟨G, ts, bs, s, r⟩ := h
  exact ⟨G, ts, bs, s.below b, r⟩
theorem UF.touch {S : Nat → Prop} {W W' : World} {a : Option Addr} {lo : Nat} {T : List (List Int)} {f : Nat → List Int} (h : UF W a lo T f) (t : Touch S W W') (hs : ∀ k, S k → k < lo) : UF W' a lo T f := by
  obtain ⟨G, ts, bs, s, r1, r2, r3, r4⟩ := h
  exact ⟨G, ts, bs, s.touch t (fun h0 hh => by have := hs _ hh; have := r3 h0; omega) (fun j hj hh => by have := hs _ hh; have := r4 j hj; omega), r1, r2, r3, r4⟩
theorem UF.isg {W : World} {a : Option Addr} {lo : Nat} {T : List (List Int)} (h : UF W a lo T (tF T)) : ∃ ts, ISG W a ts ∧ ts.map IV.x = T := by
  obtain ⟨G, ts, bs, s, r1, r2, _⟩ := h
  exact ⟨ts, (s.ext (fun j hj => (map_at r1 hj).symm)).isg (map_len r1) r2, r1⟩
theorem markUF (a : Option Addr) (cap lo : Nat) (T : List (List Int)) (f : Nat → List Int) (W : World) (h : UF W a lo T f) (hn : T.length ≤ 600000) :
    Calls Try.prog 33 #[.slice a T.length cap, .int .i64 1] W fun e W' => e = .returned (.int .i64 (1 + 3 * (T.length : Int))) ∧ Touch (fun x => lo ≤ x) W W' ∧ UF W' a lo T (fun i => ramp (1 + 3 * i) 3) := by
  obtain ⟨G, ts, bs, s, r1, r2, r3, r4⟩ := h
  refine (markSL_any a G T.length cap ts bs f W s hn).mono ?_
  rintro e W' ⟨rfl, t, s'⟩
  exact ⟨rfl, t.mono (fun k hk => by obtain ⟨j, hj, rfl⟩ := hk; exact r4 j hj), G, ts, bs, s', r1, r2, r3, r4⟩
theorem heldUF (a : Option Addr) (cap lo : Nat) (T : List (List Int)) (W : World) (h : UF W a lo T (fun i => ramp (1 + 3 * i) 3)) (hn : T.length ≤ 600000) :
    Calls Try.prog 34 #[.slice a T.length cap, .int .i64 1] W fun e W' => e = .returned (.int .i64 (1 + 3 * (T.length : Int))) ∧ W' = W := by
  obtain ⟨G, ts, bs, s, _⟩ := h
  exact heldSL_any a G T.length cap ts bs W s hn
theorem eqUF (a c : Option Addr) (cap cap' : Nat) (T : List (List Int)) (fs gs : List IV) (W : World) (h1 : ISG W a fs) (e1 : fs.map IV.x = T) (h2 : ISG W c gs) (e2 : gs.map IV.x = T) (hn : T.length ≤ 600000) :
    Calls Try.prog 32 #[.slice a T.length cap, .slice c T.length cap'] W fun e W' => e = .returned (.bool true) ∧ Below W.heap.size W W' :=
  eqIS_same a c T.length cap cap' fs gs W (map_len e1) (map_len e2) h1 h2 (by omega) (fun i hi => by show (fs[i]?.getD noI).x = _; rw [map_at e1 hi, map_at e2 hi])

theorem scatforms_at (T : List (List Int)) (ad : Option Addr) (N cap : Nat) (gs : List L2V) (w : World) (hN : gs.length = N) (hF : LSG w ad gs) (hN1 : N ≤ 1048576) (hT : catT (catB N gs) (catP gs) = T) :
    Calls Try.prog 30 #[.slice ad N cap] w fun e w' => ∃ a cp ts, e = .returned (.slice a T.length cp) ∧ Below w.heap.size w w' ∧ ISG w' a ts ∧ ts.map IV.x = T ∧ T.length ≤ 600000 := by
  refine (scatforms_any ad N cap gs w hN hF hN1).mono ?_
  rintro e w' ⟨b, ⟨h, G, rfl⟩ | ⟨h, G, cG, ts, nt, rfl, hl, hg, hx, hnt⟩⟩
  · rw [h, catT] at hT
    simp only [Bool.false_eq_true, if_false] at hT
    subst hT
    exact ⟨_, 0, [], rfl, b, fun i hi => by simp at hi, rfl, by simp⟩
  · rw [h, catT] at hT
    simp only [if_true] at hT
    rw [hT] at hx
    have := map_len hx
    exact ⟨_, cG, ts, by rw [← this, hl], b, hg, hx, by omega⟩
theorem icatforms_at (T : List (List Int)) (ad : Option Addr) (N cap : Nat) (gs : List L2V) (w : World) (hN : gs.length = N) (hF : LSG w ad gs) (hN1 : N ≤ 1048576) (hT : catT (catB N gs) (catP gs) = T) :
    Calls Try.prog 31 #[.slice ad N cap] w fun e w' => ∃ a cp, e = .returned (.slice a T.length cp) ∧ Below w.heap.size w w' ∧ UF w' a w.heap.size T (tF T) := by
  refine (icatforms_any ad N cap gs w hN hF hN1).mono ?_
  rintro e w' ⟨b, ⟨h, rfl⟩ | ⟨h, G, cG, ts, bs, rfl, hx, jo⟩⟩
  · rw [h, catT] at hT
    simp only [Bool.false_eq_true, if_false] at hT
    subst hT
    exact ⟨_, 0, rfl, b, 0, [], fun _ => 0, SL.none _ _ _ _ _ _, rfl, fun i hi => by simp at hi, fun h => by simp at h, fun j hj => by simp at hj⟩
  · rw [h, catT] at hT
    simp only [if_true] at hT
    rw [hT] at hx jo ⊢
    have hl := map_len hx
    have s := jo.sl hl
    refine ⟨_, cG, rfl, b, G, ts, bs, s.ext (fun j hj => map_at hx hj), hx, fun i hi => (jo.k i (by omega)).1, fun _ => (jo.blk (g := G) rfl).1, fun j hj => (jo.k j (by omega)).2.2.1⟩

end Go.Proofs.Ytomlnlcgfdojnaa
