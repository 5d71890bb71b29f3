/-
  The parts that must be kept an eye on: both texts at copies of the acts.
-/
import Derived.Test.YtacjjhfbnbmnlaaGreatDoorYIntSM
import Derived.Test.YtacjjhfbnbmnlaaGreatDoorPackJ
namespace Go.Proofs.YtacjjhfbnbmnlaaGreatDoor
open Go.RowKit
set_option linter.unusedVariables false
set_option maxRecDepth 100000

/-- What is told of acts. -/
def catT (v : Bool) (ps : List (List Int)) : List (List Int) := if v then ps else []
def tF (T : List (List Int)) (i : Nat) : List Int := T[i]?.getD []
theorem map_at {ts : List IV} {T : List (List Int)} (h : ts.map IV.x = T) {i : Nat} (hi : i < T.length) : (ts[i]?.getD noI).x = tF T i := by
  subst h
  rw [List.length_map] at hi
  rw [tF, List.getElem?_map, List.getElem?_eq_getElem hi]; rfl
theorem map_len {ts : List IV} {T : List (List Int)} (h : ts.map IV.x = T) : ts.length = T.length := by rw [← h, List.length_map]
/-- The program's answer, in memory of its own. -/
def UF (W : World) (a : Option Addr) (lo : Nat) (T : List (List Int)) (f : Nat → List Int) : Prop := ∃ G ts bs, SL W a G T.length ts bs f ∧ ts.map IV.x = T ∧ (∀ i, i < T.length → (ts[i]?.getD noI).n = 3) ∧ (0 < T.length → lo ≤ G) ∧ ∀ j, j < T.length → lo ≤ bs j
theorem UF.below {W W' : World} {a : Option Addr} {lo : Nat} {T : List (List Int)} {f : Nat → List Int} (h : UF W a lo T f) (b : Below W.heap.size W W') : UF W' a lo T f := by
  obtain ⟨G, ts, bs, s, r⟩ := h
  exact ⟨G, ts, bs, s.below b, r⟩
theorem UF.touch {S : Nat → Prop} {W W' : World} {a : Option Addr} {lo : Nat} {T : List (List Int)} {f : Nat → List Int} (h : UF W a lo T f) (t : Touch S W W') (hs : ∀ k, S k → k < lo) : UF W' a lo T f := by
  obtain ⟨G, ts, bs, s, r1, r2, r3, r4⟩ := h
  exact ⟨G, ts, bs, s.touch t (fun h0 hh => by have := hs _ hh; have := r3 h0; omega) (fun j hj hh => by have := hs _ hh; have := r4 j hj; omega), r1, r2, r3, r4⟩
theorem UF.isg {W : World} {a : Option Addr} {lo : Nat} {T : List (List Int)} (h : UF W a lo T (tF T)) : ∃ ts, ISG W a ts ∧ ts.map IV.x = T := by
  obtain ⟨G, ts, bs, s, r1, r2, _⟩ := h
  exact ⟨ts, (s.ext (fun j hj => (map_at r1 hj).symm)).isg (map_len r1) r2, r1⟩

theorem icatforms_at (T : List (List Int)) (ad : Option Addr) (N cap : Nat) (gs : List L2V) (w : World) (hN : gs.length = N) (hF : LSG w ad gs) (hN1 : N ≤ 1048576) (hT : catT (catB N gs) (catP gs) = T) :
    Calls Tryz.prog 110 #[.slice ad N cap] w fun e w' => ∃ a cp, e = .returned (.slice a T.length cp) ∧ Below w.heap.size w w' ∧ UF w' a w.heap.size T (tF T) := by
  refine (icatforms_any ad N cap gs w hN hF hN1).mono ?_
  rintro e w' ⟨b, ⟨h, rfl⟩ | ⟨h, G, cG, ts, bs, rfl, hx, jo⟩⟩
  · rw [h, catT] at hT
    simp only [Bool.false_eq_true, if_false] at hT
    subst hT
    exact ⟨_, 0, rfl, b, 0, [], fun _ => 0, SL.none _ _ _ _ _ _, rfl, fun i hi => by simp at hi, fun h => by simp at h, fun j hj => by simp at hj⟩
  · rw [h, catT] at hT
    simp only [if_true] at hT
    rw [hT] at hx jo ⊢
    have hl := map_len hx
    have s := jo.sl hl
    refine ⟨_, cG, rfl, b, G, ts, bs, s.ext (fun j hj => map_at hx hj), hx, fun i hi => (jo.k i (by omega)).1, fun _ => (jo.blk (g := G) rfl).1, fun j hj => (jo.k j (by omega)).2.2.1⟩

end Go.Proofs.YtacjjhfbnbmnlaaGreatDoor
