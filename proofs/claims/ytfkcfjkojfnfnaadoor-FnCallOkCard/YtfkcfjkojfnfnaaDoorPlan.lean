/-
  Plans: the size, a copy, one held against another, an argument that is one; whether one is ok. Lengths at most 1048576 where one is copied.
-/
import Derived.Test.YtfkcfjkojfnfnaaDoorCat
import Derived.Test.YtfkcfjkojfnfnaaDoorTrtW
namespace Go.Proofs.YtfkcfjkojfnfnaaDoor
open Go.ChangeShapes Go.WideShapes Go.ChangeAt Go.RowKit Go.Joins
set_option linter.unusedVariables false
set_option maxRecDepth 100000

/-- A plan as a value. -/
abbrev plV (cl : Int) (ad : Option Addr) (N cap : Nat) (ga : Option Addr) (gn gc : Nat) (sa : Option Addr) (sn sc : Nat) : Value := .agg #[.int .i64 cl, .slice ad N cap, .slice ga gn gc, .slice sa sn sc]

/-- What a plan holds, that may be copied. -/
structure PlAt (w : World) (ad : Option Addr) (N : Nat) (ss : List L2V) (ga : Option Addr) (gn : Nat) (G : List Int) (sa : Option Addr) (sn : Nat) (S : List Int) : Prop where
  a : LSG w ad ss
  ha : ss.length = N
  za : N ≤ 1048576
  g : Ints w ga gn G
  zg : gn ≤ 1048576
  s : Ints w sa sn S
  zs : sn ≤ 1048576
theorem PlAt.below {w w' : World} {ad : Option Addr} {N : Nat} {ss : List L2V} {ga : Option Addr} {gn : Nat} {G : List Int} {sa : Option Addr} {sn : Nat} {S : List Int} (h : PlAt w ad N ss ga gn G sa sn S) (b : Below w.heap.size w w') : PlAt w' ad N ss ga gn G sa sn S :=
  ⟨h.a.below b, h.ha, h.za, h.g.below b, h.zg, h.s.below b, h.zs⟩
theorem PlAt.alloc {w : World} {ad : Option Addr} {N : Nat} {ss : List L2V} {ga : Option Addr} {gn : Nat} {G : List Int} {sa : Option Addr} {sn : Nat} {S : List Int} (h : PlAt w ad N ss ga gn G sa sn S) (o : Obj) : PlAt (w.alloc o) ad N ss ga gn G sa sn S :=
  h.below ((Below.refl _ _).alloc (Nat.le_refl _) _)

theorem Cel.quadP {w : World} {B : Nat} {x y z u : Value} {t : TypeId} (h : Cel w B [x, y, z, u] t) : w.cell? ⟨B, 0, none⟩ = some x ∧ w.cell? ⟨B, 1, none⟩ = some y ∧ w.cell? ⟨B, 2, none⟩ = some z ∧ w.cell? ⟨B, 3, none⟩ = some u := ⟨h.cell 0, h.cell 1, h.cell 2, h.cell 3⟩
/-- A box, and all that came before is as it was. -/
structure BP (w : World) (B : Nat) (la : List Value) (ty : TypeId) (W : World) : Prop where
  p : Cel W B la ty
  b : Below w.heap.size w W
theorem BP.new (w : World) (la : List Value) (ty : TypeId) : BP w w.heap.size la ty (w.alloc (.cells la.toArray ty)) := ⟨Cel.new w la ty, (Below.refl _ _).alloc (Nat.le_refl _) _⟩
theorem BP.below {w W W' : World} {B : Nat} {la : List Value} {ty : TypeId} (h : BP w B la ty W) (b : Below W.heap.size W W') : BP w B la ty W' := ⟨h.p.below b, h.b.trans (b.mono h.b.size)⟩
theorem BP.alloc {w W : World} {B : Nat} {la : List Value} {ty : TypeId} (h : BP w B la ty W) (o : Obj) : BP w B la ty (W.alloc o) := h.below ((Below.refl _ _).alloc (Nat.le_refl _) _)

theorem ML2.setLow {W : World} {B N : Nat} {ts : List L2V} (h : ML2 W B N ts) {X : Nat} (hX : X < B) (i : Nat) (v : Value) : ML2 (W.setCell ⟨X, i, none⟩ v) B N ts := by
  have T : Touch (fun x => x = X) W (W.setCell ⟨X, i, none⟩ v) := Touch.setCell (S := fun x => x = X) (Touch.refl _ _) rfl _
  obtain ⟨vs, h1, h2, h3⟩ := h.c
  obtain ⟨c, c1, c2, c3⟩ := h.d
  exact ⟨⟨vs, h1.setOther (by omega) _ _, h2, h3⟩, fun i hi => (h.l i hi).touch T (fun x hx => by omega), c, c1, by rw [size_setCell]; exact c2, c3⟩

theorem copies_mapP {ss ts : List L2V} (hl : ts.length = ss.length) (h : copiesL2S ss ts) : ts.map L2V.ok = ss.map L2V.ok := by
  apply List.ext_getElem?
  intro i
  by_cases hi : i < ts.length
  · obtain ⟨e1, e2, e3⟩ := h i hi
    have : (ts[i]?.getD noL).ok = (ss[i]?.getD noL).ok := by rw [L2V.ok, L2V.ok, e1]; exact copiesL_act e2 e3
    rw [List.getElem?_eq_getElem hi, List.getElem?_eq_getElem (by omega)] at this
    simp only [Option.getD_some] at this
    rw [List.getElem?_map, List.getElem?_map, List.getElem?_eq_getElem hi, List.getElem?_eq_getElem (by omega)]
    simp [this]
  · rw [List.getElem?_eq_none (by simp; omega), List.getElem?_eq_none (by simp; omega)]
theorem copies_catP {ss ts : List L2V} {N : Nat} (hl : ts.length = ss.length) (h : copiesL2S ss ts) : catB N ts = catB N ss := by
  have h3 := copies_mapP hl h
  have e1 : ∀ xs : List L2V, xs.all L2V.ok = (xs.map L2V.ok).all id := fun xs => by simp [List.all_map]
  rw [catB, catB, e1, e1, h3]
theorem copies_sameP {ss ts us : List L2V} {N : Nat} (h1 : ts.length = N) (h2 : us.length = N) (c1 : copiesL2S ss ts) (c2 : copiesL2S ss us) (hl : ∀ i, i < N → (ts[i]?.getD noL).x.length = (ts[i]?.getD noL).n) : ∀ i, i < N → sameL2 (ts[i]?.getD noL) (us[i]?.getD noL) := fun i hi => by
  obtain ⟨a1, a2, a3⟩ := c1 i (by omega)
  obtain ⟨b1, b2, b3⟩ := c2 i (by omega)
  refine ⟨by rw [a1, b1], fun j hj => ?_⟩
  have e1 := hl i hi
  exact copiesL_same (N := (ts[i]?.getD noL).n) e1 (by rw [b2, ← a2]; exact e1) a3 b3 j hj
theorem ML2.lens {W : World} {B N : Nat} {ts : List L2V} (h : ML2 W B N ts) (hl : ts.length = N) : ∀ i, i < N → (ts[i]?.getD noL).x.length = (ts[i]?.getD noL).n := fun i hi => by
  obtain ⟨b, off, _, _, h⟩ := h.g i (by rw [hl]; exact hi)
  exact h.1

/-- A plan is ok. -/
def plnB (cl : Int) (N : Nat) (ss : List L2V) (gn : Nat) (G : List Int) (sn : Nat) (S : List Int) : Bool := inB cl 1 4 && (catB N ss && (okN 3 1000 sn S && trtB sn gn S G))

theorem open_LSC {H : Type} {enc : TypeId × Value → H} {W : World} {fuel : Nat} {v : Value} {y : DataW H × List MemPlace}
    (hf : DataW.trod enc Tryd.prog W 0 (fun _ => true) true fuel 53 [v] = some y) :
    ∃ ad N cap ss, v = .slice ad N cap ∧ ss.length = N ∧ LSM W ad ss ∧ N ≤ maxLen := by
  obtain ⟨ad, N, cap, ss, hv, hl, hN, hall⟩ := open_sliceC noL (fun s => [L2V.v s]) (fun s => LM W s) (c := 1) (by omega) Tryd.underlying53 (by kernel_rfl) (fun _ => rfl) (fun fuel cs x hx => by
    have hl : cs.length = 1 := (trod_lenL Tryd.underlying43 hx)
    match cs, hl with
    | [c], _ =>
      obtain ⟨s, hs, hr⟩ := open_L1 hx
      exact ⟨s, by rw [hs], hr⟩) hf
  refine ⟨ad, N, cap, ss, hv, hl, fun i hi => ?_, hN⟩
  obtain ⟨b, off, e, hc, hr⟩ := hall i hi
  have h0 := hc 0 (by omega)
  simp only [Nat.mul_one, Nat.add_zero, List.getElem?_cons_zero] at h0
  exact ⟨b, off, e, h0, hr⟩

theorem open_plan {H : Type} {enc : TypeId × Value → H} {W : World} {r : Reach} {b0 : Nat} {v : Value} {d : DataW H} {p : List MemPlace}
    (hv : Value.okWide Tryd.prog W r b0 55 v) (h : DataW.Trod enc Tryd.prog W 0 (fun _ => true) true 55 v d p) :
    ∃ cl ad N cap ss ga gn gc G sa sn sc S, v = plV cl ad N cap ga gn gc sa sn sc ∧ (Lit.int .i64 cl).wf = true ∧ ss.length = N ∧ LSM W ad ss ∧ N ≤ maxLen ∧ Ints W ga gn G ∧ gn ≤ maxLen ∧ Ints W sa sn S ∧ sn ≤ maxLen := by
  obtain ⟨v0, v1, v2, v3, y0, y1, y2, y3, k, rfl, -, -, h0, h1, h2, h3⟩ := open_agg4 Tryd.underlying55 (by kernel_rfl) (by kernel_rfl) hv h
  obtain ⟨cl, rfl, wc⟩ := open_num h0
  obtain ⟨ad, N, cap, ss, rfl, hl, hM, hN⟩ := open_LSC h1
  obtain ⟨ga, gn, gc, G, rfl, hG, hg⟩ := open_row h2
  obtain ⟨sa, sn, sc, S, rfl, hS, hs⟩ := open_row h3
  exact ⟨cl, ad, N, cap, ss, ga, gn, gc, G, sa, sn, sc, S, rfl, wc, hl, hM, hN, hG, hg, hS, hs⟩

end Go.Proofs.YtfkcfjkojfnfnaaDoor
