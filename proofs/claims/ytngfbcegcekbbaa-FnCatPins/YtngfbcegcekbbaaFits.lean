/-
  Whether a row is the way: both functions answer the same. Lengths at most 1048576.
-/
import Derived.Test.YtngfbcegcekbbaaRow
namespace Go.Proofs.Ytngfbcegcekbbaa
open Go.RowKit
set_option linter.unusedVariables false
set_option maxRecDepth 100000

/-- A guard holds. -/
def fitB (V A : List Int) (f : FV) : Bool := decide (0 ≤ atV f.C f.D f.K V A)
def fitsB (gs ls ts : List FV) (a t : Nat) (st : Bool) (p q : Nat) (V A : List Int) : Bool := rowB gs ls ts a t st && okN 3 10000 p V && okN 2 9 q A && gs.all (fitB V A)

theorem allP_take_succ {P : FV → Bool} {fs : List FV} {k : Nat} (h : k < fs.length) (h1 : (fs.take k).all P = true) (h2 : P (fs[k]?.getD noFV) = true) : (fs.take (k + 1)).all P = true := by
  rw [List.take_succ_eq_append_getElem h, List.all_append, h1]
  rw [List.getElem?_eq_getElem h] at h2
  simpa using h2
theorem allP_no {P : FV → Bool} {fs : List FV} {k : Nat} (h : k < fs.length) (h2 : P (fs[k]?.getD noFV) = false) : fs.all P = false := by
  rw [List.all_eq_false]
  rw [List.getElem?_eq_getElem h] at h2
  exact ⟨fs[k], List.getElem_mem h, by simpa using h2⟩
theorem all_at {fs : List FV} {k : Nat} (h : fs.all FV.ok = true) (hk : k < fs.length) : (fs[k]?.getD noFV).ok = true := by
  rw [List.getElem?_eq_getElem hk]
  exact List.all_eq_true.1 h _ (List.getElem_mem hk)
theorem rowB_g {gs ls ts : List FV} {a t : Nat} {st : Bool} (h : rowB gs ls ts a t st = true) : gs.all FV.ok = true ∧ ls.all FV.ok = true ∧ ts.all FV.ok = true := by
  simp only [rowB, Bool.and_eq_true] at h
  exact ⟨h.1.1.1, h.1.1.2, h.1.2⟩
theorem okN_nat {c : Nat} {m : Int} {n : Nat} {zs : List Int} (hm : 0 ≤ m) (h : okN c m n zs = true) : n = c ∧ bnd m zs := by
  obtain ⟨h1, h2⟩ := okN_elim hm h
  exact ⟨by omega, h2⟩

set_option maxHeartbeats 3200000 in
theorem ifits_any (g : Option Addr) (G cg : Nat) (gs : List FV) (a : Option Addr) (A ca : Nat) (ls : List FV) (t : Option Addr) (T ct : Nat) (ts : List FV) (st : Bool) (v : Option Addr) (p cv : Nat) (V : List Int) (u : Option Addr) (q cu : Nat) (U : List Int) (w : World) (h : RowAt w g G gs a A ls t T ts) (hV : Ints w v p V) (hU : Ints w u q U) (hp : p ≤ 1048576) (hq : q ≤ 1048576) :
    Calls Try.prog 33 #[rowV g G cg a A ca t T ct st, .slice v p cv, .slice u q cu] w fun e w' => e = .returned (.bool (fitsB gs ls ts A T st p q V U)) ∧ Below w.heap.size w w' := by
  have n0 := BX.new w [.slice g G cg, .slice a A ca, .slice t T ct, .bool st] 38
  have zg := h.zg
  have HG : Hid (gs.length = G) := h.hg
  obtain ⟨rb, hrb⟩ : ∃ rb, rb = rowB gs ls ts A T st := ⟨_, rfl⟩
  obtain ⟨vb, hvb⟩ : ∃ vb, vb = okN 3 10000 p V := ⟨_, rfl⟩
  obtain ⟨ub, hub⟩ : ∃ ub, ub = okN 2 9 q U := ⟨_, rfl⟩
  have HR : Hid (rb = rowB gs ls ts A T st) := hrb
  have HV : Hid (vb = okN 3 10000 p V) := hvb
  have HU : Hid (ub = okN 2 9 q U) := hub
  clear hrb hvb hub
  go_enter Try.func33, Try.ntmps33
  go_wp2_with fail
  refine (irow_any _ _ _ gs _ _ _ ls _ _ _ ts _ _ (h.alloc _)).mono ?_
  rintro e w1 ⟨rfl, b1⟩
  have n1 := n0.below b1
  rw [← HR.out]
  clear n0 b1
  obtain ⟨c0, c1, c2, c3⟩ := n1.p.quad
  cases rb
  · go_wp2
    go_ret
    exact ⟨ret_bool (by rw [fitsB, ← HR.out]; rfl), n1.b⟩
  go_wp2_with fail
  refine (ival_any _ _ _ V _ (hV.below n1.b) hp).mono ?_
  rintro e w2 ⟨rfl, rfl⟩
  rw [← HV.out]
  cases vb
  · go_wp2
    go_ret
    exact ⟨ret_bool (by rw [fitsB, ← HR.out, ← HV.out]; rfl), n1.b⟩
  go_wp2_with fail
  refine (iarg_any _ _ _ U _ (hU.below n1.b) hq).mono ?_
  rintro e w2 ⟨rfl, rfl⟩
  rw [← HU.out]
  cases ub
  · go_wp2
    go_ret
    exact ⟨ret_bool (by rw [fitsB, ← HR.out, ← HV.out, ← HU.out]; rfl), n1.b⟩
  have HF : Hid (fitsB gs ls ts A T st p q V U = gs.all (fitB V U)) := by show _ = _; rw [fitsB, ← HR.out, ← HV.out, ← HU.out]; rfl
  have HO : Hid (gs.all FV.ok = true) := (rowB_g HR.out.symm).1
  obtain ⟨rfl, bV⟩ := okN_nat (c := 3) (by omega) HV.out.symm
  obtain ⟨rfl, bU⟩ := okN_nat (c := 2) (by omega) HU.out.symm
  have hg1 := (h.below n1.b).g
  have hV1 := hV.below n1.b
  have hU1 := hU.below n1.b
  clear h hV hU HR HV HU
  go_wp2_with fail
  go_loopw [8, 25] (fun _ i wr => ∃ k : Nat, k ≤ G ∧ i = .int .i64 k ∧ Below w2.heap.size w2 wr ∧ (gs.take k).all (fitB V U) = true) (fun _ i _ => G - (intOf i).toNat)
  case atStart => exact ⟨0, Nat.zero_le _, rfl, Below.refl _ _, by simp⟩
  case round =>
    clear c0 c1 c2 c3
    obtain ⟨k, hk, rfl, hb, hall⟩ := hrel
    have HA : Hid ((gs.take k).all (fitB V U) = true) := hall
    have nr := n1.below hb
    obtain ⟨c0, c1, c2, c3⟩ := nr.p.quad
    clear hall
    by_cases hlt : k < G
    · obtain ⟨b, off, rfl, e0, e1, e2, e3⟩ := (hg1.below hb) k (by rw [HG.out]; exact hlt)
      have hok := all_at (k := k) HO.out (by rw [HG.out]; exact hlt)
      generalize HGk : gs[k]?.getD noFV = f at *
      have HG' : Hid (gs[k]?.getD noFV = f) := HGk
      clear HGk hg1
      obtain ⟨fa, fn, fcap, fc, fm, fcap', fK, fC, fD⟩ := f
      obtain ⟨iC, iD, _, _⟩ := e3
      simp only at e0 e1 e2 iC iD
      obtain ⟨rfl, rfl, bC, bD, bK⟩ := formB_elim (show formB fn fm fC fD fK = true from hok)
      have HX : Hid (fitB V U (gs[k]?.getD noFV) = decide (0 ≤ atV fC fD fK V U)) := by show _ = _; rw [HG'.out]; rfl
      clear HG' hok
      generalize HXv : atV fC fD fK V U = x at *
      have hx : Hid (atV fC fD fK V U = x) := HXv
      clear HXv
      by_cases hneg : x < 0
      · go_wp2_with fail
        refine (iat_any _ _ _ _ _ fC fD _ _ _ _ V U _ (iC.alloc _) (iD.alloc _) ((hV1.below hb).alloc _) ((hU1.below hb).alloc _) bC bD bK bV bU).mono ?_
        rintro e w3 ⟨rfl, b3⟩
        rw [hx.out]
        have n3 := (nr.alloc _).below b3
        go_wp2
        go_ret
        exact ⟨ret_bool (by rw [HF.out, allP_no (k := k) (by rw [HG.out]; exact hlt) (by rw [HX.out]; simp; omega)]), n3.b⟩
      · have hx0 : 0 ≤ x := by omega
        go_wp2_with fail
        refine (iat_any _ _ _ _ _ fC fD _ _ _ _ V U _ (iC.alloc _) (iD.alloc _) ((hV1.below hb).alloc _) ((hU1.below hb).alloc _) bC bD bK bV bU).mono ?_
        rintro e w3 ⟨rfl, b3⟩
        rw [hx.out]
        have B3 : Below w2.heap.size w2 w3 := (hb.alloc hb.size _).trans (b3.mono (by have := hb.size; simp; omega))
        clear b3 hb iC iD e0 e1 e2 c0 c1 c2 c3
        go_wp2
        go_roundw
        case rel => exact ⟨k + 1, by omega, by go_num, B3, allP_take_succ (by rw [HG.out]; exact hlt) HA.out (by rw [HX.out]; simp; omega)⟩
        case measure => simp [intOf]; omega
    · go_wp2
      go_ret
      exact ⟨ret_bool (by rw [HF.out]; have := HA.out; rw [List.take_of_length_le (by rw [HG.out]; omega)] at this; exact this.symm), nr.b⟩

end Go.Proofs.Ytngfbcegcekbbaa
