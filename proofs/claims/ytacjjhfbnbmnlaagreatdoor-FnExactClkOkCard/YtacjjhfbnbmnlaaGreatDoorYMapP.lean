/-
  Parts as keys of a map: three numbers; what the map of the parts' places holds. No condition.
-/
import Derived.Test.YtacjjhfbnbmnlaaGreatDoorPackG
import Derived.Maps.OwnSet
import Derived.Maps.RangeWalk
import Derived.WideKeyArr2
namespace Go.Proofs.YtacjjhfbnbmnlaaGreatDoor
open Go.RowKit Go.Deep
open Go.WideMaps (ArrKey)
set_option linter.unusedVariables false
set_option maxRecDepth 100000

abbrev kV (a b c : Int) : Value := .agg #[.int .i64 a, .int .i64 b, .int .i64 c]
abbrev KT : TypeId := 206
theorem arr3 : ArrKey Tryz.prog KT 3 3 := ⟨Tryz.underlying206, by kernel_rfl, by kernel_rfl, by kernel_rfl⟩
theorem law3 : Maps.Keyed Tryz.prog KT := Maps.Keyed.of_law arr3.law
theorem szT : ∃ m, Tryz.prog.types.size = m + 1 := ⟨Tryz.prog.types.size - 1, by have h : (0 : Nat) < Tryz.prog.types.size := of_decide_eq_true (by kernel_rfl); omega⟩
def kL (a b c : Int) : Lit := .string (keyBytes [.int .i64 a, .int .i64 b, .int .i64 c])
theorem keyOf_three {a b c : Int} (wa : (Lit.int .i64 a).wf = true) (wb : (Lit.int .i64 b).wf = true) (wc : (Lit.int .i64 c).wf = true) : keyOf Tryz.prog KT (kV a b c) = some (kL a b c) := by
  have hkt := arr3.keyType szT
  obtain ⟨m, hm⟩ := szT
  unfold keyOf
  simp only [arr3.hu]
  rw [if_pos (by simp [hkt, Value.formed, arr3.hu, arr3.size]), hm]
  unfold Program.keyLits
  simp only [arr3.hu, Value.cells]
  rw [if_pos (by rw [arr3.size]; rfl), show List.range 3 = [0, 1, 2] from rfl, List.mapM_cons, List.mapM_cons, List.mapM_cons, List.mapM_nil]
  simp [arr3.one, Program.keyLits, Tryz.underlying3, wa, wb, wc, kL]
theorem lit_one {m : Nat} {x : Value} {L : List Lit} (h : Tryz.prog.keyLits (m + 1) 3 [x] = some L) : ∃ a, x = .int .i64 a ∧ (Lit.int .i64 a).wf = true ∧ L = [.int .i64 a] := by
  unfold Program.keyLits at h
  simp only [Tryz.underlying3] at h
  split at h
  all_goals first
    | (cases h; done)
    | skip
  all_goals simp_all
theorem inv3 {key : Value} {kl : Lit} (h : keyOf Tryz.prog KT key = some kl) : ∃ a b c, key = kV a b c ∧ kl = kL a b c ∧ (Lit.int .i64 a).wf = true ∧ (Lit.int .i64 b).wf = true ∧ (Lit.int .i64 c).wf = true := by
  obtain ⟨xs, L, rfl, hl, rfl⟩ := keyOf_top arr3.wide h
  obtain ⟨m, hm⟩ := szT
  rw [hm] at hl
  unfold Program.keyLits at hl
  simp only [arr3.hu] at hl
  split at hl
  · rename_i hlen
    rw [arr3.size] at hlen
    obtain ⟨x, y, z, rfl⟩ : ∃ x y z, xs = #[x, y, z] := by
      match xs, hlen with
      | ⟨[x, y, z]⟩, _ => exact ⟨x, y, z, rfl⟩
    rw [show List.range 3 = [0, 1, 2] from rfl, List.mapM_cons, List.mapM_cons, List.mapM_cons, List.mapM_nil] at hl
    simp only [arr3.one, bind, pure, Option.map_eq_some_iff, Option.bind_eq_some_iff] at hl
    obtain ⟨aa, ⟨l0, h0, l1', ⟨l1, h1, l2', ⟨l2, h2, l3, e3, e2⟩, e1⟩, e0⟩, rfl⟩ := hl
    simp only [Option.some.injEq] at e3 e2 e1 e0
    subst e3 e2 e1 e0
    obtain ⟨a, rfl, wa, rfl⟩ := lit_one (m := m) (x := x) (by simpa using h0)
    obtain ⟨b, rfl, wb, rfl⟩ := lit_one (m := m) (x := y) (by simpa using h1)
    obtain ⟨c, rfl, wc, rfl⟩ := lit_one (m := m) (x := z) (by simpa using h2)
    exact ⟨a, b, c, rfl, rfl, wa, wb, wc⟩
  · cases hl

/-- A part as a key. -/
def kP (p : List Int) : Lit := kL (p[0]?.getD 0) (p[1]?.getD 0) (p[2]?.getD 0)
def wfP (p : List Int) : Prop := p.length = 3 ∧ ∀ i, i < 3 → (Lit.int .i64 (p[i]?.getD 0)).wf = true
theorem keyOf_P {p : List Int} (h : wfP p) : keyOf Tryz.prog KT (kV (p[0]?.getD 0) (p[1]?.getD 0) (p[2]?.getD 0)) = some (kP p) := keyOf_three (h.2 0 (by omega)) (h.2 1 (by omega)) (h.2 2 (by omega))
theorem three_eq {p : List Int} (h : p.length = 3) : p = [p[0]?.getD 0, p[1]?.getD 0, p[2]?.getD 0] := by
  match p, h with
  | [a, b, c], _ => rfl
theorem kP_inj {p q : List Int} (hp : wfP p) (hq : wfP q) (h : kP p = kP q) : p = q := by
  have := law3.inj (keyOf_P hp) (h ▸ keyOf_P hq)
  simp only [kV, Value.agg.injEq, Array.mk.injEq, List.cons.injEq, Value.int.injEq, true_and, and_true] at this
  obtain ⟨h0, h1, h2⟩ := this
  rw [three_eq hp.1, three_eq hq.1, h0, h1, h2]
theorem wf_wrap (z : Int) : (Lit.int .i64 (wrap64 z)).wf = true := wrap64_wf z
theorem wfP_part {C : List Int} (h : C.length = 3) : wfP (partL C) := by
  refine ⟨by rw [part_len, h], fun i hi => ?_⟩
  rw [partL, mulW_get (by omega)]
  exact wf_wrap _
theorem key_lit (p : List Int) : WideAt.IsKeyLit (kP p) := trivial

/-- What the map of the parts' places holds. -/
structure MapIs (D : DataW Unit) (ps : List (List Int)) : Prop where
  sz : Maps.size D = ps.length
  ix : ∀ j, j < ps.length → ∀ z, D.atKey (kP (ps[j]?.getD [])) z = .lit (.int .i64 j)
  has : ∀ p, wfP p → (Maps.has D (kP p) = true ↔ p ∈ ps)
  wf : ∀ p ∈ ps, wfP p
theorem MapIs.empty : MapIs (.map []) [] := ⟨rfl, fun j hj => by simp at hj, fun p _ => by simp [Maps.has], fun p hp => by simp at hp⟩
theorem MapIs.put {D : DataW Unit} {ps : List (List Int)} {p : List Int} (h : MapIs D ps) (hT : Maps.Tidy D) (hp : wfP p) (hn : p ∉ ps) : MapIs (D.put (kP p) (.lit (.int .i64 (ps.length : Int)))) (ps ++ [p]) := by
  have hno : Maps.has D (kP p) = false := by
    cases hh : Maps.has D (kP p) with
    | false => rfl
    | true => exact absurd ((h.has p hp).1 hh) hn
  refine ⟨?_, fun j hj z => ?_, fun q hq => ?_, fun q hq => ?_⟩
  · rw [Maps.size_put hT, hno, h.sz]; simp
  · by_cases e : j < ps.length
    · have hm : ps[j]?.getD [] ∈ ps := by rw [List.getElem?_eq_getElem e]; exact List.getElem_mem e
      rw [List.getElem?_append_left e, Maps.atKey_put_other (fun e2 => hn (by rw [← kP_inj (h.wf _ hm) hp e2]; exact hm))]
      exact h.ix j e z
    · rw [List.length_append, List.length_singleton] at hj
      obtain rfl : j = ps.length := by omega
      rw [List.getElem?_append_right (Nat.le_refl _), Nat.sub_self]
      exact Maps.atKey_put_same hT.isMap (key_lit p) _ z
  · by_cases e : q = p
    · subst e
      simp [Maps.has_put_same hT.isMap (key_lit q)]
    · rw [Maps.has_put_other (fun e2 => e (kP_inj hq hp e2)), h.has q hq]
      simp [e]
  · rcases List.mem_append.1 hq with hq | hq
    · exact h.wf q hq
    · simp only [List.mem_cons, List.not_mem_nil, or_false] at hq
      subst hq; exact hp

end Go.Proofs.YtacjjhfbnbmnlaaGreatDoor
