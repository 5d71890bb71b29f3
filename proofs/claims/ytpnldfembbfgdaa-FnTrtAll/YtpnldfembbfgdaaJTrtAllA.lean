/-
  Lemmas that the claim's last text rests on: Own, WayI, WayC, WayA, CatRS, IntSS, Has, Part, Cat, BothA, Both, WayR, WayD, WayG, WayK, WayT, MarkP2, KeyI, RowsY, WayK2, WayF, WayP, WayQ, WayS, WayZ, WayH, IReads, BoolS, CatPW, DrPt, DrAl, TrtW, Keeps, KeepsS, All.
-/
import Derived.Test.YtpnldfembbfgdaaOwn0
import Derived.Test.YtpnldfembbfgdaaAdd
import Derived.Lib.SliceRun
import Derived.Test.YtpnldfembbfgdaaIntoW
import Derived.Test.YtpnldfembbfgdaaPut
import Derived.Test.YtpnldfembbfgdaaReads
import Derived.Test.YtpnldfembbfgdaaMarks
import Derived.Test.YtpnldfembbfgdaaOpenS
import Derived.Test.YtpnldfembbfgdaaGrow
import Derived.Test.YtpnldfembbfgdaaLineSS
import Derived.Deep.AppendLies
import Derived.Deep.AppendSrc
import Derived.Deep.Upon
import Derived.Test.YtpnldfembbfgdaaKeyed
import Derived.OrdersIn
import Derived.OrdersHeld
import Derived.RangeFuncNested
import Derived.RangeFuncBound
import Derived.RangeFuncCalls
import Derived.RangeFuncLeaves
import Derived.Shelf.Abstract
import Derived.Shelf.RegionOpen
import Derived.WalkKit
import Derived.OwnWalkIn
import Derived.TacticsInMore
import Derived.LoopNIn
import Derived.LoopIn
import Derived.Test.YtpnldfembbfgdaaDrTr
import Derived.Test.YtpnldfembbfgdaaDrAs
import Derived.Test.YtpnldfembbfgdaaDrAd
import Derived.Test.YtpnldfembbfgdaaTrt
import Derived.Deep.RegionHeld3
import Derived.Deep.DeepCutAuto
namespace Go.Proofs.Ytpnldfembbfgdaa
open Go.RowKit
set_option linter.unusedVariables false
set_option maxRecDepth 100000

set_option maxHeartbeats 400000 in
theorem addX_any (n cap B : Nat) (a c : Option Addr) (cap' : Nat) (xs ys : List Int) (M M' : Int) (w : World) (h : OwnX w a B n xs) (h' : Ints w c n ys) (hne : ∀ b o, c = some ⟨b, o, none⟩ → b ≠ B)
    (hn : n ≤ 1048576) (hM : bnd M xs) (hM' : bnd M' ys) (hb : M ≤ 2000000000000000000) (hb' : M' ≤ 2000000000000000000) :
    Calls Try.prog 78 #[.slice a n cap, .slice c n cap'] w fun e w' => e = .returned (.tuple #[]) ∧ Touch (fun x => x = B ∧ 0 < n) w w' ∧ OwnX w' a B n (List.zipWith (· + ·) xs ys) := by
  have HX : Hid (xs.length = n) := h.1
  have HY : Hid (ys.length = n) := h'.1
  go_enter Try.func78, Try.ntmps78
  go_wp2_with fail
  go_loopw [4, 5, 8] (fun _ _ i wr => ∃ j : Nat, j ≤ n ∧ i = .int .i64 j ∧ Touch (fun x => x = B ∧ 0 < n) w wr ∧ OwnX wr a B n (added xs ys j)) (fun _ _ i _ => n - (intOf i).toNat)
  case atStart => exact ⟨0, Nat.zero_le _, rfl, Touch.refl _ _, by rw [added_zero]; exact h⟩
  case round =>
    obtain ⟨j, hj, rfl, ht, ho⟩ := hrel
    by_cases hlt : j < n
    · obtain ⟨rfl, hcs, hfs⟩ := ho.pos (by omega)
      obtain ⟨b, off, rfl, hcell⟩ := h'.pos (by omega)
      have hck : wr.cell? ⟨b, off + j, none⟩ = some (.int .i64 (ys[j]?.getD 0)) := by
        have h0 := hcell j hlt
        have : wr.cell? ⟨b, off + j, none⟩ = w.cell? ⟨b, off + j, none⟩ := World.cell?_of_block (ht.block b (block_lt h0) (fun e => hne b off rfl e.1))
        rw [this, h0]; simp
      have hco : wr.cell? ⟨B, j, none⟩ = some (.int .i64 (xs[j]?.getD 0)) := by
        rw [hcs j hlt, added_get xs ys j (by rw [HX.out, HY.out]) (by rw [HX.out]; exact hlt)]
      have hf := hfs j
      obtain ⟨m1, m2⟩ := hM j
      obtain ⟨m3, m4⟩ := hM' j
      have R : OwnX (wr.setCell ⟨B, j, none⟩ (.int .i64 (xs[j]?.getD 0 + ys[j]?.getD 0))) (some ⟨B, 0, none⟩) B n (added xs ys (j + 1)) := by
        have := ho.set hlt (xs[j]?.getD 0 + ys[j]?.getD 0)
        rwa [added_succ xs ys j (by rw [HX.out, HY.out]) (by rw [HX.out]; exact hlt)] at this
      have R2 : Touch (fun x => x = B ∧ 0 < n) w (wr.setCell ⟨B, j, none⟩ (.int .i64 (xs[j]?.getD 0 + ys[j]?.getD 0))) := ht.setCell ⟨rfl, by omega⟩ _
      clear h ho hcell h' hM hM' hne hcs hfs
      go_wp2
      go_roundw
      case rel => exact ⟨j + 1, by omega, by go_num, R2, R⟩
      case measure => simp [intOf]; omega
    · go_wp2
      go_end0
      obtain rfl : j = n := by omega
      exact ⟨rfl, ht, by rw [added_end xs ys j (by rw [HX.out]; exact Nat.le_refl _) (by rw [HY.out]; exact Nat.le_refl _)] at ho; exact ho⟩

/-- The numbers of a slice, to be appended. -/
theorem newsI {w : World} {b off n : Nat} {zs : List Int} (h : ∀ i, i < n → w.cell? ⟨b, off + i, none⟩ = some (.int .i64 (zs.getD i 0))) (hl : zs.length = n) : ∀ j u, (zs.map (Value.int .i64))[j]? = some u → w.cell? ((⟨b, off, none⟩ : Addr).add j) = some u := fun j u hu => by
  have hj : j < n := by
    have := (List.getElem?_eq_some_iff.1 hu).1
    simpa [hl] using this
  have hadd : (⟨b, off, none⟩ : Addr).add j = ⟨b, off + j, none⟩ := by
    by_cases h0 : j = 0
    · subst h0; simp [Addr.add]
    · simp [Addr.add, h0]
  rw [hadd, h j hj]
  rw [List.getElem?_map, List.getElem?_eq_getElem (by omega)] at hu
  simp only [Option.map_some, Option.some.injEq] at hu
  rw [← hu]
  simp [hl, hj]
theorem oneI (zs : List Int) : ∀ u ∈ zs.map (Value.int .i64), u.oneCell' = true := fun u hu => by
  obtain ⟨x, _, rfl⟩ := List.mem_map.1 hu
  rfl
theorem JA.copied {w W' : World} {zs : List Int} {g cap n : Nat} (hn : zs.length = n) (hown : W'.ownsRow w.heap.size 3 1 (.slice (some ⟨g, 0, none⟩) (0 + n) cap) (0 + n) ([] ++ zs.map (Value.int .i64))) (hg : (w.alloc (.cells #[] 3)).grownBy W' (Value.ownBlock (.slice (some ⟨w.heap.size, 0, none⟩) 0 0))) :
    JA w (.slice (some ⟨g, 0, none⟩) n cap) zs W' := by
  have h0 := JA.lit w
  refine h0.own (ys := zs) ?_ hg
  rw [hn]
  simpa using hown

set_option maxHeartbeats 400000 in
theorem clone_any (a : Option Addr) (n cap : Nat) (zs : List Int) (w : World) (h : Ints w a n zs) (hn : n ≤ 1048576) (h0 : 0 < n) :
    Calls Try.prog 47 #[.slice a n cap] w fun e w' => ∃ v, e = .returned v ∧ JA w v zs w' := by
  have HZ : Hid (zs.length = n) := h.1
  obtain ⟨i0, hi, hz0, hz1, hz2⟩ := info_parts Try.infoInt
  obtain ⟨b, off, rfl, hcell⟩ := h.pos h0
  have hcl : ∀ i, i < n → (w.alloc (.cells #[] 3)).cell? ⟨b, off + i, none⟩ = some (.int .i64 (zs.getD i 0)) := fun i hi => by
    rw [((Below.refl w.heap.size w).alloc (Nat.le_refl _) _).cell (p := ⟨b, off + i, none⟩) (block_lt (hcell i hi))]; exact hcell i hi
  have HC : Hid _ := newsI hcl HZ.out
  have HL : Hid ((zs.map (Value.int .i64)).length = n * 1) := by show _ = _; rw [List.length_map, HZ.out, Nat.mul_one]
  have HJ : Hid _ := (JA.lit w).o
  clear hcl hcell h
  have hnil : ∀ w, (binOp .eql 26 (.slice (some ⟨b, off, none⟩) n cap) (.slice none 0 0)).run Try.prog w = .ok (.bool false) w := fun w => Go.Lib.run_eql_slice_nil w _ _ _ _ _ _ _ Try.underlying26
  go_enter Try.func47, Try.ntmps47
  go_wp2_with (at_builtin; go_must (refine wpList_append_lies _ rfl (.tmp 5) (.tmp 6) 26 rfl w.heap.size 3 i0 (.int .i64 0) 1 8 Try.underlying26 hi hz0 hz1 hz2 rfl (by decide) _ 0 [] rfl HJ.out ⟨b, off, none⟩ n cap (zs.map (Value.int .i64)) rfl HL.out HC.out (oneI _) h0 (by unfold maxLen; omega) (by omega) (by rw [World.size_alloc]; omega) _ rfl ?_); intro g cp w1 hown hgrow hat hlt1)
  have j := JA.copied HZ.out hown hgrow
  clear hown hgrow
  go_wp2
  go_ret
  exact ⟨_, rfl, j⟩

end Go.Proofs.Ytpnldfembbfgdaa
namespace Go.Proofs.Ytpnldfembbfgdaa
open Go.RowKit Go.Deep
set_option linter.unusedVariables false
set_option maxRecDepth 100000

theorem way0_get {k : Nat} (hk : k < 3) : way0.pots[k]?.getD ([], [], 0) = (([0, 0, 0] : List Int).set k 1, [0, 0], 0) := by
  match k, hk with
  | 0, _ => rfl
  | 1, _ => rfl
  | 2, _ => rfl

end Go.Proofs.Ytpnldfembbfgdaa
namespace Go.Proofs.Ytpnldfembbfgdaa
open Go.RowKit Go.Deep
set_option linter.unusedVariables false
set_option maxRecDepth 100000

end Go.Proofs.Ytpnldfembbfgdaa
namespace Go.Proofs.Ytpnldfembbfgdaa
open Go.RowKit Go.Deep
set_option linter.unusedVariables false
set_option maxRecDepth 100000

/-- A way as a value. -/
abbrev wayV (ga : Option Addr) (ng gc : Nat) (pa : Option Addr) (cp : Nat) (ta : Option Addr) (nt tc : Nat) (st : Bool) : Value := .agg #[.slice ga ng gc, .slice pa 3 cp, .slice ta nt tc, .bool st]
theorem resYes {w w' : World} {e : Ending} {C D : List Int} {K : Int} (h : Res w w' e C D K) (hC : C.length = 3) (hD : D.length = 2) : ∃ B1 B2 c1 c2, e = .returned (formV (some ⟨B1, 0, none⟩) 3 c1 (some ⟨B2, 0, none⟩) 2 c2 K) ∧ Below w.heap.size w w' ∧ w.heap.size ≤ B1 ∧ B1 ≠ B2 ∧ w.heap.size ≤ B2 ∧ Blk w' B1 C ∧ Blk w' B2 D := by
  obtain ⟨a, n, cap, c, m, cap', B1, B2, rfl, L1, L2, b, o1, o2, g1, g2, g3⟩ := h
  obtain rfl : n = 3 := by omega
  obtain rfl : m = 2 := by omega
  rcases o1 with h | ⟨rfl, k1⟩
  · rw [h] at hC; cases hC
  rcases o2 with h | ⟨rfl, k2⟩
  · rw [h] at hD; cases hD
  exact ⟨B1, B2, cap, cap', rfl, b, g1 (by omega), g3 (by omega) (by omega), g2 (by omega), k1, k2⟩
theorem lin_neg (xs ys : List Int) : lin xs (mulL (-1) ys) 1 = lin xs ys (-1) := by
  unfold lin mulL
  rw [List.zipWith_map_right]
  congr 1
  funext x y
  omega
def negX (k : Nat) : Frm := (mulL (-1) (([0, 0, 0] : List Int).set k 1), mulL (-1) [0, 0], -1 * 0)
theorem plus_neg (f : Frm) (k : Nat) : plusX f (negX k) = lessX f k := by
  simp only [plusX, negX, lessX, lin_neg]
  rw [show f.2.2 + 1 * (-1 * 0) = f.2.2 + -1 * 0 by omega]
theorem negX_fit {k : Nat} (hk : k < 3) : fitX 1 (negX k) := by
  have b3 : bnd 1 (mulL (-1) (([0, 0, 0] : List Int).set k 1)) := fun i => by
    match k, hk, i with
    | 0, _, 0 => simp [mulL]
    | 0, _, 1 => simp [mulL]
    | 0, _, 2 => simp [mulL]
    | 0, _, i + 3 => simp [mulL]
    | 1, _, 0 => simp [mulL]
    | 1, _, 1 => simp [mulL]
    | 1, _, 2 => simp [mulL]
    | 1, _, i + 3 => simp [mulL]
    | 2, _, 0 => simp [mulL]
    | 2, _, 1 => simp [mulL]
    | 2, _, 2 => simp [mulL]
    | 2, _, i + 3 => simp [mulL]
  have b2 : bnd 1 (mulL (-1) ([0, 0] : List Int)) := fun i => by
    match i with
    | 0 => simp [mulL]
    | 1 => simp [mulL]
    | i + 2 => simp [mulL]
  exact ⟨by simp [negX, mulL], by simp [negX, mulL], b3, b2, by simp [negX], by simp [negX]⟩

end Go.Proofs.Ytpnldfembbfgdaa
namespace Go.Proofs.Ytpnldfembbfgdaa
open Go.RowKit Go.Deep
set_option linter.unusedVariables false
set_option maxRecDepth 100000

/-- No number of a row is too great. -/
structure RowFit (r : RowM) : Prop where
  g : ∀ k, k < r.guards.length → fitX 10000000 (r.guards[k]?.getD ([], [], 0))
  a : ∀ k, k < r.adds.length → fitX 10000000 (r.adds[k]?.getD ([], [], 0))
  t : ∀ k, k < r.tells.length → fitX 10000000 (r.tells[k]?.getD ([], [], 0))
  lg : r.guards.length ≤ 1000
  la : r.adds.length ≤ 3
  lt : r.tells.length ≤ 1000
theorem endW_fit {i : Nat} {y : Way} (h : WayOk i y) (hi : i ≤ 1000) : RowFit (endW y) := by
  refine ⟨fun k hk => h.gf k hk, fun k hk => ?_, fun k hk => h.tf k hk, ?_, ?_, ?_⟩
  · have hk3 : k < 3 := by
      have : (endW y).adds.length = 3 := by simp [endW]
      omega
    have e : (endW y).adds[k]?.getD ([], [], 0) = lessX (y.pots[k]?.getD noX) k := by
      rw [show (endW y).adds = (List.range 3).map (fun v => lessX (y.pots[v]?.getD noX) v) from rfl, List.getElem?_map, List.getElem?_range hk3]
      rfl
    rw [e, ← plus_neg]
    have h1 := h.pf k hk3
    have h6 := wb_six (n := min i 6) (by omega)
    have hp := wb_pos (min i 6)
    exact (plusX_fit h1 (negX_fit hk3) (by omega)).mono (by omega)
  · show y.guards.length ≤ 1000; have := h.gl; omega
  · simp [endW]
  · show y.tells.length ≤ 1000; have := h.tl; omega
theorem stopW_fit {i : Nat} {y : Way} (h : WayOk i y) (hi : i ≤ 1000) : RowFit (stopW y) :=
  ⟨fun k hk => h.gf k hk, fun k hk => by simp [stopW] at hk, fun k hk => by simp [stopW] at hk, by show y.guards.length ≤ 1000; have := h.gl; omega, by simp [stopW], by simp [stopW]⟩
theorem goW_fit {ls : List LV} (h6 : ls.length ≤ 6) (hall : ls.all LV.ok = true) (hD : ∀ k, k < ls.length → (ls[k]?.getD noLV).f.D.length = (ls[k]?.getD noLV).f.m) (f : Nat) : ∀ (i : Nat) (y : Way), i ≤ 12 + 7 * (7 - f) → f ≤ 7 → WayOk i y → ∀ r ∈ goW ls f i y, RowFit r := by
  induction f with
  | zero => intro i y hi _ h r hr; simp only [goW, List.mem_cons, List.not_mem_nil, or_false] at hr; subst hr; exact endW_fit h (by omega)
  | succ f ih =>
    intro i y hi hf7 h r hr
    rw [goW] at hr
    by_cases hl : i < ls.length
    · rw [if_pos hl] at hr
      have hok : (ls[i]?.getD noLV).ok = true := by
        rw [List.getElem?_eq_getElem hl]
        exact List.all_eq_true.1 hall _ (List.getElem_mem hl)
      have hDD := hD i hl
      generalize ls[i]?.getD noLV = q at *
      by_cases hk4 : q.kind = 4
      · rw [if_neg (by omega), if_neg (by omega), if_neg (by omega)] at hr
        simp only [List.mem_cons, List.not_mem_nil, or_false] at hr
        subst hr
        exact stopW_fit h (by omega)
      · obtain ⟨hsm, hkk, hz, hp⟩ := lineW (show lineB q.kind q.pot q.skip q.f.n q.f.m q.f.C q.f.D q.f.K = true from hok) hk4
        obtain ⟨f1, f2, f3⟩ := h.into (by omega) (f := q.f) hsm hDD
        rcases hkk with e | e | e
        · rw [if_pos e] at hr
          have hz' := hz e
          rcases List.mem_append.1 hr with hr | hr
          · exact ih _ _ (by omega) (by omega) (h.guard (by omega) f2) r hr
          · exact ih _ _ (by omega) (by omega) (h.guard (by omega) f3) r hr
        · rw [if_neg (by omega), if_pos e] at hr
          have hp' := hp e
          exact ih _ _ (by omega) (by omega) (h.add (by omega) (by omega) f1) r hr
        · rw [if_neg (by omega), if_neg (by omega), if_pos e] at hr
          exact ih _ _ (by omega) (by omega) (h.tell (by omega) f2) r hr
    · rw [if_neg hl] at hr
      simp only [List.mem_cons, List.not_mem_nil, or_false] at hr
      subst hr
      exact endW_fit h (by omega)

/-- What ways tell of, or add by. -/
def readsR (rs : List RowM) (v : Nat) : Bool := rs.any fun r => r.adds.any (fun f => hasP f v) || r.tells.any (fun f => hasP f v)
theorem readsR_snoc (rs : List RowM) (k : Nat) (hk : k < rs.length) (v : Nat) : readsR (rs.take (k + 1)) v = readsF (readsF (readsR (rs.take k)) (rs[k]?.getD noR).adds) (rs[k]?.getD noR).tells v := by
  rw [readsR, List.take_succ_eq_append_getElem hk, List.any_append, List.getElem?_eq_getElem hk]
  simp [readsF, readsR, Bool.or_assoc]
theorem rowsL_fit {ls : List LV} {w : World} {ad : Option Addr} (h6 : ls.length ≤ 6) (hall : ls.all LV.ok = true) (hF : LinesG w ad ls) : ∀ r ∈ rowsL ls, RowFit r :=
  goW_fit h6 hall (fun k hk => by obtain ⟨b, off, e, hc, hA⟩ := hF k hk; exact hA.D.1) 7 0 way0 (by omega) (by omega) WayOk.start

theorem OwnB.below {W W' : World} {G : Nat} {f : Nat → Bool} (h : OwnB W G f) (b : Below W.heap.size W W') : OwnB W' G f := by
  obtain ⟨cur, hc, hv⟩ := h
  exact ⟨cur, hc.below b, hv⟩

end Go.Proofs.Ytpnldfembbfgdaa
namespace Go.Proofs.Ytpnldfembbfgdaa
open Go.ChangeShapes Go.WideShapes Go.ChangeAt Go.RowKit Go.Joins Go.Deep
set_option linter.unusedVariables false
set_option maxRecDepth 100000

/-- A slice, and what it holds. -/
structure IV where
  a : Option Addr
  n : Nat
  cap : Nat
  x : List Int
def noI : IV := ⟨none, 0, 0, []⟩
def IV.v (s : IV) : Value := .slice s.a s.n s.cap

theorem trod_len1 {H : Type} {enc : TypeId × Value → H} {W : World} {fuel : Nat} {t e : TypeId} {cs : List Value} {x : DataW H × List MemPlace} (hS : Try.prog.underlying t = some (.slice e)) (hf : DataW.trod enc Try.prog W 0 (fun _ => true) true fuel t cs = some x) : cs.length = 1 := by
  rcases open_slice hS hf with ⟨h, _⟩ | ⟨a, len, cap, m, n, D, Pl, h, _⟩ <;> rw [h] <;> rfl

def IM (w : World) (s : IV) : Prop := Ints w s.a s.n s.x ∧ s.n ≤ maxLen
def IG (w : World) (s : IV) : Prop := Ints w s.a s.n s.x ∧ s.n ≤ 1048576
def IS (s : IV) : Prop := s.n ≤ 1048576
def IK (w : World) (lo : Nat) (s : IV) : Prop := ∃ B, s.a = some ⟨B, 0, none⟩ ∧ lo ≤ B ∧ Blk w B s.x ∧ s.x.length = s.n ∧ s.n ≤ 1048576
def copiesI (s t : IV) : Prop := t.n = s.n ∧ t.x = s.x
def sameI (s t : IV) : Prop := s.x = t.x
theorem IM.below {w w' : World} {s : IV} (h : IM w s) (hb : Below w.heap.size w w') : IM w' s := ⟨h.1.below hb, h.2⟩
theorem IG.below {w w' : World} {s : IV} (h : IG w s) (hb : Below w.heap.size w w') : IG w' s := ⟨h.1.below hb, h.2⟩
theorem IM.g {w : World} {s : IV} (h : IM w s) (hs : IS s) : IG w s := ⟨h.1, hs⟩
theorem IK.below {w w' : World} {lo : Nat} {s : IV} (h : IK w lo s) (hb : Below w.heap.size w w') : IK w' lo s := by
  obtain ⟨B, h1, h2, h3, h4⟩ := h
  exact ⟨B, h1, h2, h3.below hb, h4⟩
theorem IK.touch {S : Nat → Prop} {w w' : World} {lo : Nat} {s : IV} (h : IK w lo s) (t : Touch S w w') (hs : ∀ k, S k → k < lo) : IK w' lo s := by
  obtain ⟨B, h1, h2, h3, h4⟩ := h
  refine ⟨B, h1, h2, ?_, h4⟩
  unfold Blk at *
  rw [t.block B (lt_of_block h3) (fun hh => by have := hs _ hh; omega)]; exact h3
theorem IK.mono {w : World} {lo lo' : Nat} {s : IV} (h : IK w lo s) (hl : lo' ≤ lo) : IK w lo' s := by
  obtain ⟨B, h1, h2, h3⟩ := h
  exact ⟨B, h1, by omega, h3⟩
theorem IK.g {w : World} {lo : Nat} {s : IV} (h : IK w lo s) : IG w s := by
  obtain ⟨B, h1, h2, h3, h4, h5⟩ := h
  refine ⟨?_, h5⟩
  rw [h1, ← h4]; exact h3.ints
theorem open_I1 {H : Type} {enc : TypeId × Value → H} {W : World} {fuel : Nat} {v : Value} {y : DataW H × List MemPlace}
    (hf : DataW.trod enc Try.prog W 0 (fun _ => true) true fuel 26 [v] = some y) : ∃ s : IV, v = s.v ∧ IM W s := by
  obtain ⟨a, n, cap, zs, rfl, h1, h2⟩ := open_row hf
  exact ⟨⟨a, n, cap, zs⟩, rfl, h1, h2⟩

/-- A slice of slices that came in. -/
def ISM (w : World) (ad : Option Addr) (ss : List IV) : Prop :=
  ∀ i, i < ss.length → ∃ b off, ad = some ⟨b, off, none⟩ ∧ w.cell? ⟨b, off + i, none⟩ = some (ss[i]?.getD noI).v ∧ IM w (ss[i]?.getD noI)
/-- One that may be copied. -/
def ISG (w : World) (ad : Option Addr) (ss : List IV) : Prop :=
  ∀ i, i < ss.length → ∃ b off, ad = some ⟨b, off, none⟩ ∧ w.cell? ⟨b, off + i, none⟩ = some (ss[i]?.getD noI).v ∧ IG w (ss[i]?.getD noI)
theorem ISM.below {w w' : World} {ad : Option Addr} {ss : List IV} (h : ISM w ad ss) (hb : Below w.heap.size w w') : ISM w' ad ss := fun i hi => by
  obtain ⟨b, off, e, hc, hr⟩ := h i hi
  exact ⟨b, off, e, by rw [hb.cell (p := ⟨b, off + i, none⟩) (block_lt hc)]; exact hc, hr.below hb⟩
theorem ISG.below {w w' : World} {ad : Option Addr} {ss : List IV} (h : ISG w ad ss) (hb : Below w.heap.size w w') : ISG w' ad ss := fun i hi => by
  obtain ⟨b, off, e, hc, hr⟩ := h i hi
  exact ⟨b, off, e, by rw [hb.cell (p := ⟨b, off + i, none⟩) (block_lt hc)]; exact hc, hr.below hb⟩
theorem ISM.g {w : World} {ad : Option Addr} {ss : List IV} (h : ISM w ad ss) (hs : ∀ i, i < ss.length → IS (ss[i]?.getD noI)) : ISG w ad ss := fun i hi => by
  obtain ⟨b, off, e, hc, hr⟩ := h i hi
  exact ⟨b, off, e, hc, hr.g (hs i hi)⟩

theorem open_IS {H : Type} {enc : TypeId × Value → H} {W : World} {r : Reach} {b0 : Nat} {v : Value} {d : DataW H} {p : List MemPlace}
    (hv : Value.okWide Try.prog W r b0 46 v) (h : DataW.Trod enc Try.prog W 0 (fun _ => true) true 46 v d p) :
    ∃ ad N cap ss, v = .slice ad N cap ∧ ss.length = N ∧ ISM W ad ss ∧ N ≤ maxLen := by
  obtain ⟨ad, N, cap, ss, hv, hl, hN, hall⟩ := open_sliceT noI (fun s => [IV.v s]) (fun s => IM W s) (c := 1) (by omega) Try.underlying46 (by kernel_rfl) (fun _ => rfl) (fun fuel cs x hx => by
    have hl : cs.length = 1 := (trod_len1 Try.underlying26 hx)
    match cs, hl with
    | [c], _ =>
      obtain ⟨s, hs, hr⟩ := open_I1 hx
      exact ⟨s, by rw [hs], hr⟩) hv h
  refine ⟨ad, N, cap, ss, hv, hl, fun i hi => ?_, hN⟩
  obtain ⟨b, off, e, hc, hr⟩ := hall i hi
  have h0 := hc 0 (by omega)
  simp only [Nat.mul_one, Nat.add_zero, List.getElem?_cons_zero] at h0
  exact ⟨b, off, e, h0, hr⟩

/-- Each holds what the other does. -/
def copiesIS (ss ts : List IV) : Prop := ∀ i, i < ts.length → copiesI (ss[i]?.getD noI) (ts[i]?.getD noI)

/-- Block B holds N slices, of which those of ts have been laid. -/
structure MI (W : World) (B N : Nat) (ts : List IV) : Prop where
  c : ∃ vs : List Value, Cel W B vs 26 ∧ vs.length = N ∧ ∀ i, i < ts.length → vs[i]? = some (ts[i]?.getD noI).v
  l : ∀ i, i < ts.length → IK W (B + 1) (ts[i]?.getD noI)
theorem MI.lt {W : World} {B N : Nat} {ts : List IV} (h : MI W B N ts) : B < W.heap.size := by
  obtain ⟨vs, h1, _⟩ := h.c
  exact h1.lt
theorem MI.below {W W' : World} {B N : Nat} {ts : List IV} (h : MI W B N ts) (b : Below W.heap.size W W') : MI W' B N ts := by
  obtain ⟨vs, h1, h2, h3⟩ := h.c
  exact ⟨⟨vs, h1.below b, h2, h3⟩, fun i hi => (h.l i hi).below b⟩
theorem MI.g {W : World} {B N : Nat} {ts : List IV} (h : MI W B N ts) : ISG W (some ⟨B, 0, none⟩) ts := fun i hi => by
  obtain ⟨vs, h1, h2, h3⟩ := h.c
  exact ⟨B, 0, rfl, by rw [Nat.zero_add, h1.cell i, h3 i hi], (h.l i hi).g⟩
theorem MI.step {W W1 : World} {B N k : Nat} {ts : List IV} {s : IV} (h : MI W B N ts) (hk : ts.length = k) (hkN : k < N) (b : Below W.heap.size W W1) (hs : IK W1 W.heap.size s) : MI (W1.setCell ⟨B, k, none⟩ s.v) B N (ts ++ [s]) := by
  have hB := h.lt
  obtain ⟨vs, h1, h2, h3⟩ := (h.below b).c
  have T : Touch (fun x => x = B) W1 (W1.setCell ⟨B, k, none⟩ s.v) := Touch.setCell (S := fun x => x = B) (Touch.refl _ _) rfl _
  refine ⟨⟨vs.set k s.v, h1.set _ _, by rw [List.length_set]; exact h2, fun i hi => ?_⟩, fun i hi => ?_⟩
  · rw [List.length_append, hk] at hi
    simp only [List.length_cons, List.length_nil] at hi
    by_cases e : i = k
    · subst e
      rw [List.getElem?_set_self (by omega), List.getElem?_append_right (by omega), hk]; simp
    · rw [List.getElem?_set_ne (by omega), List.getElem?_append_left (by omega)]
      exact h3 i (by omega)
  · rw [List.length_append, hk] at hi
    simp only [List.length_cons, List.length_nil] at hi
    by_cases e : i = k
    · subst e
      rw [List.getElem?_append_right (by omega), hk]
      simp only [Nat.sub_self, List.getElem?_cons_zero, Option.getD_some]
      exact (hs.mono (by omega)).touch T (fun x hx => by omega)
    · rw [List.getElem?_append_left (by omega)]
      exact (((h.l i (by omega)).below b)).touch T (fun x hx => by omega)

theorem Try.infoI : (Try.prog.info? 26).map (fun i => (i.zero, i.size, i.bytes)) = some (some (.slice none 0 0), 1, 24) := by kernel_rfl

end Go.Proofs.Ytpnldfembbfgdaa
namespace Go.Proofs.Ytpnldfembbfgdaa
open Go.RowKit
set_option linter.unusedVariables false

set_option maxHeartbeats 400000 in
theorem l4same_any (a c : Option Addr) (n m cap cap' : Nat) (xs ys : List Int) (w : World) (h : Ints w a n xs) (h' : Ints w c m ys) (hn : n ≤ 1048576) (hm : m ≤ 1048576) :
    Calls Try.prog 72 #[.slice a n cap, .slice c m cap'] w fun e w' => e = .returned (.bool (eqB xs ys)) ∧ Below w.heap.size w w' := by
  have hx := h.1
  have HX : Hid (xs.length = n) := hx
  have hy := h'.1
  have HY : Hid (ys.length = m) := hy
  clear hx hy
  by_cases hc : n = m
  · subst hc
    go_enter Try.func72, Try.ntmps72
    go_wp2_with fail
    go_loopw [5] (fun i wr => ∃ k : Nat, k ≤ n ∧ i = .int .i64 k ∧ Below w.heap.size w wr ∧ xs.take k = ys.take k) (fun i _ => n - (intOf i).toNat)
    case atStart => exact ⟨0, Nat.zero_le _, rfl, Below.refl _ _, rfl⟩
    case round =>
      obtain ⟨k, hk, rfl, hnx, hall⟩ := hrel
      have HA : Hid (xs.take k = ys.take k) := hall
      clear hall
      by_cases hlt : k < n
      · obtain ⟨b, off, rfl, hcell⟩ := (h.below hnx).pos (by omega)
        obtain ⟨b', off', rfl, hcell'⟩ := (h'.below hnx).pos (by omega)
        have hck := hcell k hlt
        have hck' := hcell' k hlt
        have hlt' : (k : Int) < (n : Int) := by omega
        clear hcell hcell' h h'
        go_wp2_with fail
        go_quiet (fail)
        cases he : (xs[k]?.getD 0 != ys[k]?.getD 0)
        · go_wp2
          go_roundw
          case rel => exact ⟨k + 1, by omega, by go_num, below_drewN hnx _, take_same_succ (by rw [HX.out]; exact hlt) (by rw [HY.out]; exact hlt) HA.out (by simpa using he)⟩
          case measure => simp [intOf]; omega
        · go_wp2
          go_ret
          exact ⟨ret_bool (by rw [eqB_false (k := k) (by simpa using he)]), below_drewN hnx _⟩
      · go_wp2
        go_ret
        exact ⟨ret_bool (by rw [eqB_true HX.out HY.out (by omega) HA.out]), hnx⟩
  · have hne : ((n : Int) != (m : Int)) = true := by simp; omega
    go_enter Try.func72, Try.ntmps72
    go_wp2
    go_ret
    exact ⟨ret_bool (by rw [eqB_len (by rw [HX.out, HY.out]; exact hc)]), Below.refl _ _⟩

set_option maxHeartbeats 400000 in
theorem equal_any (a c : Option Addr) (n m cap cap' : Nat) (xs ys : List Int) (w : World) (h : Ints w a n xs) (h' : Ints w c m ys) (hn : n ≤ 1048576) (hm : m ≤ 1048576) :
    Calls Try.prog 102 #[.slice a n cap, .slice c m cap'] w fun e w' => e = .returned (.bool (eqB xs ys)) ∧ Below w.heap.size w w' := by
  have hx := h.1
  have HX : Hid (xs.length = n) := hx
  have hy := h'.1
  have HY : Hid (ys.length = m) := hy
  clear hx hy
  by_cases hc : n = m
  · subst hc
    go_enter Try.func102, Try.ntmps102
    go_wp2_with fail
    go_loopw [5, 13] (fun _ i wr => ∃ k : Nat, k ≤ n ∧ i = .int .i64 k ∧ Below w.heap.size w wr ∧ xs.take k = ys.take k) (fun _ i _ => n - (intOf i).toNat)
    case atStart => exact ⟨0, Nat.zero_le _, rfl, Below.refl _ _, rfl⟩
    case round =>
      obtain ⟨k, hk, rfl, hnx, hall⟩ := hrel
      have HA : Hid (xs.take k = ys.take k) := hall
      clear hall
      by_cases hlt : k < n
      · obtain ⟨b, off, rfl, hcell⟩ := (h.below hnx).pos (by omega)
        obtain ⟨b', off', rfl, hcell'⟩ := (h'.below hnx).pos (by omega)
        have hck := hcell k hlt
        have hck' := hcell' k hlt
        have hlt' : (k : Int) < (n : Int) := by omega
        clear hcell hcell' h h'
        go_wp2_with fail
        go_quiet (fail)
        cases he : (xs[k]?.getD 0 != ys[k]?.getD 0)
        · go_wp2
          go_roundw
          case rel => exact ⟨k + 1, by omega, by go_num, below_drewN hnx _, take_same_succ (by rw [HX.out]; exact hlt) (by rw [HY.out]; exact hlt) HA.out (by simpa using he)⟩
          case measure => simp [intOf]; omega
        · go_wp2
          go_ret
          exact ⟨ret_bool (by rw [eqB_false (k := k) (by simpa using he)]), below_drewN hnx _⟩
      · go_wp2
        go_ret
        exact ⟨ret_bool (by rw [eqB_true HX.out HY.out (by omega) HA.out]), hnx⟩
  · have hne : ((n : Int) != (m : Int)) = true := by simp; omega
    go_enter Try.func102, Try.ntmps102
    go_wp2
    go_ret
    exact ⟨ret_bool (by rw [eqB_len (by rw [HX.out, HY.out]; exact hc)]), Below.refl _ _⟩

/-- The place of a part among others, from place k on. -/
def hasFrom (part : List Int) : Nat → List (List Int) → Int
  | _, [] => -1
  | k, x :: t => if eqB x part then k else hasFrom part (k + 1) t
def hasI (ss : List IV) (part : List Int) : Int := hasFrom part 0 (ss.map IV.x)
theorem has_drop {ss : List IV} {part : List Int} {k : Nat} (h : k < ss.length) : hasFrom part k ((ss.map IV.x).drop k) = if eqB (ss[k]?.getD noI).x part then (k : Int) else hasFrom part (k + 1) ((ss.map IV.x).drop (k + 1)) := by
  have hl : k < (ss.map IV.x).length := by simpa using h
  rw [List.drop_eq_getElem_cons hl, hasFrom, List.getElem?_eq_getElem h]
  simp
theorem has_end {ss : List IV} {part : List Int} {k : Nat} (h : ss.length ≤ k) : hasFrom part k ((ss.map IV.x).drop k) = -1 := by
  rw [List.drop_eq_nil_of_le (by simpa using h)]; rfl

set_option maxHeartbeats 800000 in
theorem shas_any (ad : Option Addr) (N cap : Nat) (ss : List IV) (c : Option Addr) (m cap' : Nat) (part : List Int) (w : World) (hN : ss.length = N) (hF : ISG w ad ss) (hN1 : N ≤ 1048576) (hP : Ints w c m part) (hm : m ≤ 1048576) :
    Calls Try.prog 74 #[.slice ad N cap, .slice c m cap'] w fun e w' => e = .returned (.int .i64 (hasI ss part)) ∧ Below w.heap.size w w' := by
  have HN : Hid (ss.length = N) := hN
  clear hN
  go_enter Try.func74, Try.ntmps74
  go_wp2_with fail
  go_loopw [5] (fun i wr => ∃ k : Nat, k ≤ N ∧ i = .int .i64 k ∧ Below w.heap.size w wr ∧ hasI ss part = hasFrom part k ((ss.map IV.x).drop k)) (fun i _ => N - (intOf i).toNat)
  case atStart => exact ⟨0, Nat.zero_le _, rfl, Below.refl _ _, rfl⟩
  case round =>
    obtain ⟨k, hk, rfl, hb, hall⟩ := hrel
    have HA : Hid _ := hall
    clear hall
    by_cases hlt : k < N
    · obtain ⟨b, off, rfl, hc, hr⟩ := (hF.below hb) k (by rw [HN.out]; exact hlt)
      have HD : Hid _ := has_drop (ss := ss) (part := part) (k := k) (by rw [HN.out]; exact hlt)
      generalize HG : ss[k]?.getD noI = g at *
      clear HG hF
      obtain ⟨ga, gn, gcap, gx⟩ := g
      have hc' : wr.cell? ⟨b, off + k, none⟩ = some (.slice ga gn gcap) := hc
      clear hc
      cases he : eqB gx part
      · go_wp2_with fail
        refine (l4same_any _ _ _ _ _ _ gx part _ hr.1 (hP.below hb) hr.2 hm).mono ?_
        rintro e w1 ⟨rfl, b1⟩
        rw [he]
        go_wp2
        go_roundw
        case rel => exact ⟨k + 1, by omega, by go_num, hb.trans (b1.mono hb.size), by rw [HA.out, HD.out]; simp only [he]; rfl⟩
        case measure => simp [intOf]; omega
      · go_wp2_with fail
        refine (l4same_any _ _ _ _ _ _ gx part _ hr.1 (hP.below hb) hr.2 hm).mono ?_
        rintro e w1 ⟨rfl, b1⟩
        rw [he]
        go_wp2
        go_ret
        exact ⟨ret_int (by rw [HA.out, HD.out]; simp only [he]; rfl), hb.trans (b1.mono hb.size)⟩
    · go_wp2
      go_ret
      exact ⟨ret_int (by rw [HA.out, has_end (by rw [HN.out]; omega)]), hb⟩

set_option maxHeartbeats 800000 in
theorem ihas_any (ad : Option Addr) (N cap : Nat) (ss : List IV) (c : Option Addr) (m cap' : Nat) (part : List Int) (w : World) (hN : ss.length = N) (hF : ISG w ad ss) (hN1 : N ≤ 1048576) (hP : Ints w c m part) (hm : m ≤ 1048576) :
    Calls Try.prog 89 #[.slice ad N cap, .slice c m cap'] w fun e w' => e = .returned (.int .i64 (hasI ss part)) ∧ Below w.heap.size w w' := by
  have HN : Hid (ss.length = N) := hN
  clear hN
  go_enter Try.func89, Try.ntmps89
  go_wp2_with fail
  go_loopw [5, 6, 9] (fun _ _ i wr => ∃ k : Nat, k ≤ N ∧ i = .int .i64 k ∧ Below w.heap.size w wr ∧ hasI ss part = hasFrom part k ((ss.map IV.x).drop k)) (fun _ _ i _ => N - (intOf i).toNat)
  case atStart => exact ⟨0, Nat.zero_le _, rfl, Below.refl _ _, rfl⟩
  case round =>
    obtain ⟨k, hk, rfl, hb, hall⟩ := hrel
    have HA : Hid _ := hall
    clear hall
    by_cases hlt : k < N
    · obtain ⟨b, off, rfl, hc, hr⟩ := (hF.below hb) k (by rw [HN.out]; exact hlt)
      have HD : Hid _ := has_drop (ss := ss) (part := part) (k := k) (by rw [HN.out]; exact hlt)
      generalize HG : ss[k]?.getD noI = g at *
      clear HG hF
      obtain ⟨ga, gn, gcap, gx⟩ := g
      have hc' : wr.cell? ⟨b, off + k, none⟩ = some (.slice ga gn gcap) := hc
      clear hc
      cases he : eqB gx part
      · go_wp2_with fail
        refine (equal_any _ _ _ _ _ _ gx part _ hr.1 (hP.below hb) hr.2 hm).mono ?_
        rintro e w1 ⟨rfl, b1⟩
        rw [he]
        go_wp2
        go_roundw
        case rel => exact ⟨k + 1, by omega, by go_num, hb.trans (b1.mono hb.size), by rw [HA.out, HD.out]; simp only [he]; rfl⟩
        case measure => simp [intOf]; omega
      · go_wp2_with fail
        refine (equal_any _ _ _ _ _ _ gx part _ hr.1 (hP.below hb) hr.2 hm).mono ?_
        rintro e w1 ⟨rfl, b1⟩
        rw [he]
        go_wp2
        go_ret
        exact ⟨ret_int (by rw [HA.out, HD.out]; simp only [he]; rfl), hb.trans (b1.mono hb.size)⟩
    · go_wp2
      go_ret
      exact ⟨ret_int (by rw [HA.out, has_end (by rw [HN.out]; omega)]), hb⟩

end Go.Proofs.Ytpnldfembbfgdaa
namespace Go.Proofs.Ytpnldfembbfgdaa
open Go.RowKit
set_option linter.unusedVariables false

/-- The sign of the first that is not 0. -/
def sgn1 (c : Int) : Int := if 0 < c then 1 else if c < 0 then -1 else 0
theorem sgn1_vals (c : Int) : sgn1 c = 0 ∨ sgn1 c = 1 ∨ sgn1 c = -1 := by
  unfold sgn1
  split
  · simp
  · split <;> simp
def sgn : List Int → Int
  | [] => 0
  | c :: t => if sgn1 c = 0 then sgn t else sgn1 c
theorem sgn_append (xs ys : List Int) : sgn (xs ++ ys) = if sgn xs = 0 then sgn ys else sgn xs := by
  induction xs with
  | nil => simp [sgn]
  | cons c t ih =>
    simp only [List.cons_append, sgn]
    by_cases h : sgn1 c = 0
    · simp only [h, if_true]; exact ih
    · simp only [h, if_false]
theorem sgn_one (c : Int) : sgn [c] = sgn1 c := by
  simp only [sgn]
  split
  · next h => exact h.symm
  · rfl
theorem sgn_take_succ {C : List Int} {k : Nat} (h : k < C.length) : sgn (C.take (k + 1)) = if sgn (C.take k) = 0 then sgn1 (C[k]?.getD 0) else sgn (C.take k) := by
  rw [List.take_succ_eq_append_getElem h, sgn_append, List.getElem?_eq_getElem h, sgn_one]
  rfl
theorem sgn_whole {C : List Int} {k : Nat} (h : sgn (C.take k) ≠ 0) : sgn C = sgn (C.take k) := by
  have := sgn_append (C.take k) (C.drop k)
  rw [List.take_append_drop, if_neg h] at this
  exact this
theorem sgn_end {C : List Int} {k n : Nat} (hn : C.length = n) (h : n ≤ k) : sgn (C.take k) = sgn C := by rw [List.take_of_length_le (by omega)]

/-- What the list is multiplied with. -/
def sg (C : List Int) : Int := if sgn C < 0 then -1 else 1
def mulW (n : Int) (zs : List Int) : List Int := zs.map fun z => wrap64 (n * z)
def partL (C : List Int) : List Int := mulW (sg C) C
theorem mulW_len (n : Int) (zs : List Int) : (mulW n zs).length = zs.length := by simp [mulW]
theorem mulW_get {n : Int} {zs : List Int} {i : Nat} (h : i < zs.length) : (mulW n zs)[i]?.getD 0 = wrap64 (n * zs[i]?.getD 0) := by
  simp [mulW, h]
theorem part_len (C : List Int) : (partL C).length = C.length := mulW_len _ _
theorem part_step {C : List Int} {k : Nat} (h : k < C.length) : (partL C).take (k + 1) = (partL C).take k ++ [wrap64 (sgn (C.take (k + 1)) * C[k]?.getD 0)] := by
  have hl : k < (partL C).length := by rw [part_len]; exact h
  rw [List.take_succ_eq_append_getElem hl]
  congr 2
  have e : (partL C)[k] = wrap64 (sg C * C[k]?.getD 0) := by
    have := mulW_get (n := sg C) h
    rw [show mulW (sg C) C = partL C from rfl, List.getElem?_eq_getElem hl] at this
    simpa using this
  rw [e]
  by_cases hs : sgn (C.take (k + 1)) = 0
  · have h1 := sgn_take_succ h
    have h2 : sgn1 (C[k]?.getD 0) = 0 := by
      rw [hs] at h1
      by_cases h3 : sgn (C.take k) = 0
      · rw [if_pos h3] at h1; exact h1.symm
      · rw [if_neg h3] at h1; exact absurd h1.symm h3
    have h3 : C[k]?.getD 0 = 0 := by
      unfold sgn1 at h2
      split at h2
      · omega
      · split at h2 <;> omega
    rw [h3]; simp
  · have h1 := sgn_whole hs
    have : sg C = sgn (C.take (k + 1)) := by
      unfold sg
      rw [h1]
      have hv : ∀ xs : List Int, sgn xs = 0 ∨ sgn xs = 1 ∨ sgn xs = -1 := by
        intro xs
        induction xs with
        | nil => simp [sgn]
        | cons c t ih =>
          simp only [sgn]
          by_cases hc : sgn1 c = 0
          · simp only [hc, if_true]; exact ih
          · rw [if_neg hc]; exact sgn1_vals c
      rcases hv (C.take (k + 1)) with e | e | e
      · exact absurd e hs
      · rw [e]; simp
      · rw [e]; simp
    rw [this]

set_option maxHeartbeats 400000 in
theorem timesW_any (a : Option Addr) (l cap : Nat) (zs : List Int) (n : Int) (w : World) (h : Ints w a l zs) (hl : l ≤ 1048576) :
    Calls Try.prog 103 #[.slice a l cap, .int .i64 n] w fun e w' => e = .returned (.slice (some ⟨w.heap.size, 0, none⟩) l l) ∧ Below w.heap.size w w' ∧ Blk w' w.heap.size (mulW n zs) := by
  have HZ : Hid (zs.length = l) := h.1
  have HM : Hid ((mulW n zs).length = l) := by show (mulW n zs).length = l; simp [mulW, h.1]
  obtain ⟨i0, hi, hz0, hz1, hz2⟩ := info_parts Try.infoInt
  go_enter Try.func103, Try.ntmps103
  go_wp2_with (at_make; refine wpList_make_full _ rfl (.tmp 9) (.tmp 9) 26 rfl w.heap.size 3 i0 (.int .i64 0) 1 Try.underlying26 hi hz0 hz1 .i64 .i64 _ _ l rfl rfl rfl rfl (by rw [hz2]; omega) (by unfold maxLen; omega) (Nat.le_refl _) ?_; intro w1 hown hgrow)
  have hb1 := Blk.made w l w1 hown
  have HB : Below w.heap.size w w1 := (Below.refl _ _).grown hgrow (Nat.le_refl _) (by simp)
  clear hown hgrow hi hz0 hz1 hz2
  go_loopw [6, 7, 13] (fun _ _ i wr => ∃ k : Nat, k ≤ l ∧ i = .int .i64 k ∧ Below w.heap.size w wr ∧ Blk wr w.heap.size (upTo (mulW n zs) l k)) (fun _ _ i _ => l - (intOf i).toNat)
  case atStart => exact ⟨0, Nat.zero_le _, rfl, HB, by rw [upTo_zero]; exact hb1⟩
  case round =>
    obtain ⟨k, hk, rfl, hnx, hblk⟩ := hrel
    by_cases hlt : k < l
    · obtain ⟨b, off, rfl, hcell⟩ := (h.below hnx).pos (by omega)
      have hck := hcell k hlt
      have hco := hblk.cell k (by rw [upTo_len HM.out hk]; exact hlt)
      have hfo := hblk.free k
      have R := hblk.set k ((mulW n zs)[k]?.getD 0)
      rw [upTo_succ HM.out hlt, mulW_get (by rw [HZ.out]; exact hlt)] at R
      have R2 := hnx.setCell (p := ⟨w.heap.size, k, none⟩) (Nat.le_refl _) (.int .i64 (wrap64 (n * zs[k]?.getD 0)))
      clear hcell hb1 HB h hblk hnx
      go_wp2
      go_roundw
      case rel => exact ⟨k + 1, by omega, by go_num, R2, R⟩
      case measure => simp [intOf]; omega
    · go_wp2
      go_ret
      exact ⟨rfl, hnx, by rw [upTo_end HM.out (by omega)] at hblk; exact hblk⟩

set_option maxHeartbeats 800000 in
theorem ipart_any (a : Option Addr) (n cap : Nat) (c : Option Addr) (m cap' : Nat) (K : Int) (C : List Int) (w : World) (hC : Ints w a n C) (hn : n ≤ 1048576) :
    Calls Try.prog 90 #[formV a n cap c m cap' K] w fun e w' => e = .returned (.slice (some ⟨w.heap.size + 1, 0, none⟩) n n) ∧ Below w.heap.size w w' ∧ Blk w' (w.heap.size + 1) (partL C) := by
  have HC : Hid (C.length = n) := hC.1
  go_enter Try.func90, Try.ntmps90
  go_wp2_with fail
  have hC1 := hC.alloc (.cells #[.slice a n cap, .slice c m cap', .int .i64 K] 34)
  have hend : ∀ (s : Int) (w2 : World), sg C = s → Below (w.alloc (.cells #[.slice a n cap, .slice c m cap', .int .i64 K] 34)).heap.size (w.alloc (.cells #[.slice a n cap, .slice c m cap', .int .i64 K] 34)) w2 → Blk w2 (w.alloc (.cells #[.slice a n cap, .slice c m cap', .int .i64 K] 34)).heap.size (mulW s C) → Below w.heap.size w w2 ∧ Blk w2 (w.heap.size + 1) (partL C) := by
    intro s w2 hs b2 k2
    rw [World.size_alloc] at k2
    exact ⟨((Below.refl _ _).alloc (Nat.le_refl _) _).trans (b2.mono (by simp)), by unfold partL; rw [hs]; exact k2⟩
  have HE : Hid _ := hend
  clear hend
  go_loop [4, 8] (fun _ i => ∃ k : Nat, k ≤ n ∧ i = .int .i64 k ∧ sgn (C.take k) = 0) (fun _ i => n - (intOf i).toNat)
  case atStart => exact ⟨0, Nat.zero_le _, rfl, rfl⟩
  case round =>
    obtain ⟨k, hk, rfl, hs⟩ := hrel
    have HS : Hid (sgn (C.take k) = 0) := hs
    clear hs
    by_cases hlt : k < n
    · obtain ⟨b, off, rfl, hcell⟩ := hC1.pos (by omega)
      have hck := hcell k hlt
      clear hcell
      have HT : Hid (sgn (C.take (k + 1)) = sgn1 (C[k]?.getD 0)) := by
        show sgn (C.take (k + 1)) = sgn1 (C[k]?.getD 0)
        rw [sgn_take_succ (by rw [HC.out]; exact hlt), if_pos HS.out]
      by_cases h1 : 0 < C[k]?.getD 0
      · have HG : Hid (sg C = 1) := by
          show sg C = 1
          have e := HT.out
          rw [sgn1, if_pos h1] at e
          have := sgn_whole (C := C) (k := k + 1) (by rw [e]; decide)
          rw [sg, this, e]; rfl
        go_wp2_with fail
        refine (timesW_any _ _ _ C _ _ hC1 hn).mono ?_
        rintro e w2 ⟨rfl, b2, k2⟩
        go_wp2
        go_ret
        exact ⟨rfl, HE.out 1 w2 HG.out b2 k2⟩
      · by_cases h2 : C[k]?.getD 0 < 0
        · have HG : Hid (sg C = -1) := by
            show sg C = -1
            have e := HT.out
            rw [sgn1, if_neg h1, if_pos h2] at e
            have := sgn_whole (C := C) (k := k + 1) (by rw [e]; decide)
            rw [sg, this, e]; rfl
          go_wp2_with fail
          refine (timesW_any _ _ _ C _ _ hC1 hn).mono ?_
          rintro e w2 ⟨rfl, b2, k2⟩
          go_wp2
          go_ret
          exact ⟨rfl, HE.out (-1) w2 HG.out b2 k2⟩
        · have HT2 : Hid (sgn (C.take (k + 1)) = 0) := by
            show sgn (C.take (k + 1)) = 0
            rw [HT.out, sgn1, if_neg h1, if_neg h2]
          go_wp2
          go_round
          case rel => exact ⟨k + 1, by omega, by go_num, HT2.out⟩
          case measure => simp [intOf]; omega
    · have HG : Hid (sg C = 1) := by
        show sg C = 1
        have e := HS.out
        rw [sgn_end HC.out (by omega)] at e
        rw [sg, e]; rfl
      go_wp2_with fail
      refine (timesW_any _ _ _ C _ _ hC1 hn).mono ?_
      rintro e w2 ⟨rfl, b2, k2⟩
      go_wp2
      go_ret
      exact ⟨rfl, HE.out 1 w2 HG.out b2 k2⟩

set_option maxRecDepth 100000 in
set_option maxHeartbeats 1600000 in
theorem spart_new (a : Option Addr) (n cap : Nat) (c : Option Addr) (m cap' : Nat) (K : Int) (C : List Int) (w : World) (hC : Ints w a n C) (hn : n ≤ 1048576) :
    Calls Try.prog 71 #[formV a n cap c m cap' K] w fun e w' => ∃ a' cap2, e = .returned (.slice a' n cap2) ∧ Below w.heap.size w w' ∧ Ints w' a' n (partL C) ∧ (∀ b o, a' = some ⟨b, o, none⟩ → w.heap.size ≤ b ∧ b < w'.heap.size) := by
  have HC : Hid (C.length = n) := hC.1
  obtain ⟨i0, hi, hz0, hz1, hz2⟩ := info_parts Try.infoInt
  go_enter Try.func71, Try.ntmps71
  go_wp2_with fail
  obtain ⟨W, hW⟩ : ∃ W, W = w.alloc (.cells #[.slice a n cap, .slice c m cap', .int .i64 K] 34) := ⟨_, rfl⟩
  have box : Cel W w.heap.size [.slice a n cap, .slice c m cap', .int .i64 K] 34 := by rw [hW]; exact Cel.new w _ _
  have BW : Below w.heap.size w W := by rw [hW]; exact (Below.refl _ _).alloc (Nat.le_refl _) _
  have hCW : Ints W a n C := hC.below BW
  have HWS : Hid (W.heap.size = w.heap.size + 1) := by show W.heap.size = _; rw [hW, World.size_alloc]
  rw [← hW]
  clear hW hC
  go_loopw [3, 4, 5] (fun v s i wr => ∃ k : Nat, k ≤ n ∧ i = .int .i64 k ∧ s = .int .i64 (sgn (C.take k)) ∧ ∃ xs : List Int, xs.length = k ∧ xs = (partL C).take k ∧ JA W v xs wr) (fun _ _ i _ => n - (intOf i).toNat)
  case atStart => exact ⟨0, Nat.zero_le _, rfl, rfl, [], rfl, rfl, by rw [← HWS.out]; exact JA.lit W⟩
  case round =>
    obtain ⟨k, hk, rfl, rfl, xs, hxl, hxs, j⟩ := hrel
    have HL : Hid (xs.length = k) := hxl
    have HXS : Hid (xs = (partL C).take k) := hxs
    clear hxl hxs
    have jo := (j.o)
    rw [HL.out] at jo
    have hjb := j.b.size
    have g0 := (box.below j.b).cell 0
    simp only [List.getElem?_cons_zero] at g0
    by_cases hlt : k < n
    · obtain ⟨b, off, rfl, hcell⟩ := (hCW.below j.b).pos (by omega)
      have hck : wr.cell? ⟨b, off + k, none⟩ = some (.int .i64 (C[k]?.getD 0)) := by rw [hcell k hlt]; simp
      clear hcell
      have HT : Hid _ := sgn_take_succ (C := C) (k := k) (by rw [HC.out]; exact hlt)
      have HP : Hid _ := part_step (C := C) (k := k) (by rw [HC.out]; exact hlt)
      generalize HS : sgn (C.take k) = s at *
      generalize HX : C[k]?.getD 0 = x at *
      clear HS HX
      by_cases hs0 : s = 0
      · subst hs0
        by_cases h1 : 0 < x
        · have HT2 : Hid (sgn1 x = 1) := by show sgn1 x = 1; rw [sgn1, if_pos h1]
          go_wp2_with (at_builtin; go_must (refine wpList_append_lies _ rfl (.tmp 34) (.tmp 42) 26 rfl W.heap.size 3 i0 (.int .i64 0) 1 8 Try.underlying26 hi hz0 hz1 hz2 rfl (by decide) _ _ _ rfl (jo.alloc _) ⟨wr.heap.size, 0, none⟩ 1 1 [.int .i64 (wrap64 x)] rfl rfl (news1 _ _ _) (one1 _ _) (by omega) (by unfold maxLen; omega) (by omega) (by rw [World.size_alloc]; omega) _ rfl ?_); intro g cp w1 hown hgrow hat hlt1)
          have j2 := j.app HL.out hown hgrow
          clear hown hgrow jo j hat
          have HX2 : Hid (xs ++ [wrap64 x] = (partL C).take (k + 1)) := by show _ = _; rw [HP.out, HXS.out, HT.out, if_pos rfl, HT2.out, Int.one_mul]
          go_wp2
          go_roundw
          case rel => exact ⟨k + 1, by omega, by go_num, by rw [HT.out, if_pos rfl, HT2.out], _, by rw [List.length_append, HL.out]; rfl, HX2.out, j2⟩
          case measure => simp [intOf]; omega
        · by_cases h2 : x < 0
          · have HT2 : Hid (sgn1 x = -1) := by show sgn1 x = -1; rw [sgn1, if_neg h1, if_pos h2]
            go_wp2_with (at_builtin; go_must (refine wpList_append_lies _ rfl (.tmp 34) (.tmp 42) 26 rfl W.heap.size 3 i0 (.int .i64 0) 1 8 Try.underlying26 hi hz0 hz1 hz2 rfl (by decide) _ _ _ rfl (jo.alloc _) ⟨wr.heap.size, 0, none⟩ 1 1 [.int .i64 (wrap64 (-x))] rfl rfl (news1 _ _ _) (one1 _ _) (by omega) (by unfold maxLen; omega) (by omega) (by rw [World.size_alloc]; omega) _ rfl ?_); intro g cp w1 hown hgrow hat hlt1)
            have j2 := j.app HL.out hown hgrow
            clear hown hgrow jo j hat
            have HX2 : Hid (xs ++ [wrap64 (-x)] = (partL C).take (k + 1)) := by show _ = _; rw [HP.out, HXS.out, HT.out, if_pos rfl, HT2.out, Int.neg_one_mul]
            go_wp2
            go_roundw
            case rel => exact ⟨k + 1, by omega, by go_num, by rw [HT.out, if_pos rfl, HT2.out], _, by rw [List.length_append, HL.out]; rfl, HX2.out, j2⟩
            case measure => simp [intOf]; omega
          · have HT2 : Hid (sgn1 x = 0) := by show sgn1 x = 0; rw [sgn1, if_neg h1, if_neg h2]
            go_wp2_with (at_builtin; go_must (refine wpList_append_lies _ rfl (.tmp 34) (.tmp 42) 26 rfl W.heap.size 3 i0 (.int .i64 0) 1 8 Try.underlying26 hi hz0 hz1 hz2 rfl (by decide) _ _ _ rfl (jo.alloc _) ⟨wr.heap.size, 0, none⟩ 1 1 [.int .i64 0] rfl rfl (news1 _ _ _) (one1 _ _) (by omega) (by unfold maxLen; omega) (by omega) (by rw [World.size_alloc]; omega) _ rfl ?_); intro g cp w1 hown hgrow hat hlt1)
            have j2 := j.app HL.out hown hgrow
            clear hown hgrow jo j hat
            have HX2 : Hid (xs ++ [0] = (partL C).take (k + 1)) := by show _ = _; rw [HP.out, HXS.out, HT.out, if_pos rfl, HT2.out, Int.zero_mul, show wrap64 0 = 0 from by decide +kernel]
            go_wp2
            go_roundw
            case rel => exact ⟨k + 1, by omega, by go_num, by rw [HT.out, if_pos rfl, HT2.out], _, by rw [List.length_append, HL.out]; rfl, HX2.out, j2⟩
            case measure => simp [intOf]; omega
      · have hs1 : (s == 0) = false := by simp [hs0]
        go_wp2_with (at_builtin; go_must (refine wpList_append_lies _ rfl (.tmp 34) (.tmp 42) 26 rfl W.heap.size 3 i0 (.int .i64 0) 1 8 Try.underlying26 hi hz0 hz1 hz2 rfl (by decide) _ _ _ rfl (jo.alloc _) ⟨wr.heap.size, 0, none⟩ 1 1 [.int .i64 (wrap64 (s * x))] rfl rfl (news1 _ _ _) (one1 _ _) (by omega) (by unfold maxLen; omega) (by omega) (by rw [World.size_alloc]; omega) _ rfl ?_); intro g cp w1 hown hgrow hat hlt1)
        have j2 := j.app HL.out hown hgrow
        clear hown hgrow jo j hat
        have HX2 : Hid (xs ++ [wrap64 (s * x)] = (partL C).take (k + 1)) := by show _ = _; rw [HP.out, HXS.out, HT.out, if_neg hs0]
        go_wp2
        go_roundw
        case rel => exact ⟨k + 1, by omega, by go_num, by rw [HT.out, if_neg hs0], _, by rw [List.length_append, HL.out]; rfl, HX2.out, j2⟩
        case measure => simp [intOf]; omega
    · obtain rfl : k = n := by omega
      obtain ⟨a', cp, rfl, hcp, hI, hlt'⟩ := j.ints
      have HXC : Hid (xs = partL C) := by show xs = _; rw [HXS.out, List.take_of_length_le (by rw [part_len, HC.out]; exact Nat.le_refl _)]
      rw [HL.out] at hI hcp ⊢
      have jb := j.b
      clear j jo
      go_wp2
      go_ret
      exact ⟨a', cp, rfl, BW.trans (jb.mono BW.size), by rw [← HXC.out]; exact hI, fun b o e => ⟨by have := (hlt' b o e).1; have := HWS.out; omega, (hlt' b o e).2⟩⟩

theorem spart_any (a : Option Addr) (n cap : Nat) (c : Option Addr) (m cap' : Nat) (K : Int) (C : List Int) (w : World) (hC : Ints w a n C) (hn : n ≤ 1048576) :
    Calls Try.prog 71 #[formV a n cap c m cap' K] w fun e w' => ∃ a' cap2, e = .returned (.slice a' n cap2) ∧ Below w.heap.size w w' ∧ Ints w' a' n (partL C) ∧ (∀ b o, a' = some ⟨b, o, none⟩ → b < w'.heap.size) := by
  refine (spart_new a n cap c m cap' K C w hC hn).mono ?_
  rintro e w' ⟨a', cap2, h1, h2, h3, h4⟩
  exact ⟨a', cap2, h1, h2, h3, fun b o e => (h4 b o e).2⟩

end Go.Proofs.Ytpnldfembbfgdaa
namespace Go.Proofs.Ytpnldfembbfgdaa
open Go.RowKit
set_option linter.unusedVariables false
set_option maxRecDepth 100000

theorem copiesL_same {fs gs hs : List LV} {N : Nat} (hg : gs.length = N) (hh : hs.length = N) (h1 : copiesL fs gs) (h2 : copiesL fs hs) : ∀ i, i < N → sameL (gs[i]?.getD noLV) (hs[i]?.getD noLV) := fun i hi => by
  obtain ⟨a1, a2, a3, a4, a5, a6, _⟩ := h1 i (by omega)
  obtain ⟨b1, b2, b3, b4, b5, b6, _⟩ := h2 i (by omega)
  refine ⟨by rw [a1, b1], by rw [a2, b2], by rw [a3, b3], ?_⟩
  rw [a4, a5, a6, b4, b5, b6]
  exact eqF_refl _ _ _
theorem copiesL_map {α : Type} (P : LV → α) (hP : ∀ f g : LV, f.kind = g.kind → f.pot = g.pot → f.skip = g.skip → f.f.C = g.f.C → f.f.D = g.f.D → f.f.K = g.f.K → f.f.n = g.f.n → f.f.m = g.f.m → P f = P g) {fs gs : List LV} (hl : gs.length = fs.length) (h : copiesL fs gs) : gs.map P = fs.map P := by
  apply List.ext_getElem?
  intro i
  by_cases hi : i < gs.length
  · obtain ⟨a1, a2, a3, a4, a5, a6, a7, a8⟩ := h i hi
    have := hP _ _ a1 a2 a3 a4 a5 a6 a7 a8
    rw [List.getElem?_eq_getElem hi, List.getElem?_eq_getElem (by omega)] at this
    simp only [Option.getD_some] at this
    rw [List.getElem?_map, List.getElem?_map, List.getElem?_eq_getElem hi, List.getElem?_eq_getElem (by omega)]
    simp [this]
  · rw [List.getElem?_eq_none (by simp; omega), List.getElem?_eq_none (by simp; omega)]
theorem copiesL_act {fs gs : List LV} {N : Nat} (hl : gs.length = fs.length) (h : copiesL fs gs) : actB N gs = actB N fs := by
  have h1 := copiesL_map LV.ok (fun f g a1 a2 a3 a4 a5 a6 a7 a8 => by simp only [LV.ok, a1, a2, a3, a4, a5, a6, a7, a8]) hl h
  have h2 := copiesL_map LV.tst (fun f g a1 a2 a3 a4 a5 a6 a7 a8 => by simp only [LV.tst, a1]) hl h
  have e1 : ∀ xs : List LV, xs.all LV.ok = (xs.map LV.ok).all id := fun xs => by simp [List.all_map]
  have e2 : ∀ xs : List LV, tests xs = (xs.map LV.tst).countP id := fun xs => by simp [tests, List.countP_map]
  rw [actB, actB, e1, e1, e2, e2, h1, h2]

def L2V.ok (s : L2V) : Bool := actB s.n s.x
/-- Whether acts are ok. -/
def catB (N : Nat) (ss : List L2V) : Bool := inB N 1 4 && ss.all L2V.ok
theorem allC_take_succ {ls : List L2V} {k : Nat} (h : k < ls.length) (h1 : (ls.take k).all L2V.ok = true) (h2 : (ls[k]?.getD noL).ok = true) : (ls.take (k + 1)).all L2V.ok = true := by
  rw [List.take_succ_eq_append_getElem h, List.all_append, h1]
  rw [List.getElem?_eq_getElem h] at h2
  simpa using h2
theorem allC_no {ls : List L2V} {k : Nat} (h : k < ls.length) (h2 : (ls[k]?.getD noL).ok = false) : ls.all L2V.ok = false := by
  rw [List.all_eq_false]
  rw [List.getElem?_eq_getElem h] at h2
  exact ⟨ls[k], List.getElem_mem h, by simpa using h2⟩

set_option maxHeartbeats 1600000 in
theorem scat_any (ad : Option Addr) (N cap : Nat) (ss : List L2V) (w : World) (hN : ss.length = N) (hF : LSG w ad ss) (hN1 : N ≤ 1048576) :
    Calls Try.prog 80 #[.slice ad N cap] w fun e w' => e = .returned (.bool (catB N ss)) ∧ Below w.heap.size w w' := by
  have HN : Hid (ss.length = N) := hN
  clear hN
  cases hib : inB N 1 4
  · go_enter Try.func80, Try.ntmps80
    go_wp2_with fail
    refine (in_any _ _ _ _).mono ?_
    rintro e w1 ⟨rfl, rfl⟩
    rw [hib]
    go_wp2
    go_ret
    exact ⟨ret_bool (by rw [catB, hib]; rfl), Below.refl _ _⟩
  go_enter Try.func80, Try.ntmps80
  go_wp2_with fail
  refine (in_any _ _ _ _).mono ?_
  rintro e w1 ⟨rfl, hw1⟩
  rw [hib, hw1]
  clear hw1
  go_wp2_with fail
  have HCB : Hid (catB N ss = ss.all L2V.ok) := by show catB N ss = _; rw [catB, hib]; rfl
  go_loopw [3] (fun  i wr => ∃ k : Nat, k ≤ N ∧ i = .int .i64 k ∧ Below w.heap.size w wr ∧ (ss.take k).all L2V.ok = true) (fun i _ => N - (intOf i).toNat)
  case atStart => exact ⟨0, Nat.zero_le _, rfl, Below.refl _ _, by simp⟩
  case round =>
    obtain ⟨k, hk, rfl, hb, hall⟩ := hrel
    have HA : Hid ((ss.take k).all L2V.ok = true) := hall
    clear hall
    by_cases hlt : k < N
    · obtain ⟨b, off, rfl, hc, hr⟩ := (hF.below hb) k (by rw [HN.out]; exact hlt)
      generalize HG : ss[k]?.getD noL = g at *
      have HG' : Hid (ss[k]?.getD noL = g) := HG
      clear HG hF
      obtain ⟨ga, gn, gcap, gx⟩ := g
      have hc' : wr.cell? ⟨b, off + k, none⟩ = some (.slice ga gn gcap) := hc
      clear hc
      cases hf : actB gn gx
      · go_wp2_with fail
        refine (sact_any _ _ _ gx _ hr.1 hr.2.1 hr.2.2).mono ?_
        rintro e w1 ⟨rfl, b1⟩
        rw [hf]
        go_wp2
        go_ret
        exact ⟨ret_bool (by rw [HCB.out, allC_no (k := k) (by rw [HN.out]; exact hlt) (by rw [HG'.out]; exact hf)]), hb.trans (b1.mono hb.size)⟩
      · go_wp2_with fail
        refine (sact_any _ _ _ gx _ hr.1 hr.2.1 hr.2.2).mono ?_
        rintro e w1 ⟨rfl, b1⟩
        rw [hf]
        go_wp2
        go_roundw
        case rel => exact ⟨k + 1, by omega, by go_num, hb.trans (b1.mono hb.size), allC_take_succ (by rw [HN.out]; exact hlt) HA.out (by rw [HG'.out]; exact hf)⟩
        case measure => simp [intOf]; omega
    · go_wp2
      go_ret
      exact ⟨ret_bool (by rw [HCB.out]; have := HA.out; rw [List.take_of_length_le (by rw [HN.out]; omega)] at this; exact this.symm), hb⟩

end Go.Proofs.Ytpnldfembbfgdaa
namespace Go.Proofs.Ytpnldfembbfgdaa
open Go.RowKit Go.Deep
set_option linter.unusedVariables false
set_option maxRecDepth 100000

/-- A part is put behind the others, if it is not there, and not 0. -/
def addPb (ps : List (List Int)) (p : List Int) : List (List Int) := if p ∈ ps ∨ p = [0, 0, 0] then ps else ps ++ [p]
def guardsP (ps : List (List Int)) (fs : List Frm) : List (List Int) := fs.foldl (fun ps f => addPb ps (partL f.1)) ps
def rowsP (ps : List (List Int)) (rs : List RowM) : List (List Int) := rs.foldl (fun ps r => guardsP ps r.guards) ps
def actsP (ps : List (List Int)) (ss : List L2V) : List (List Int) := ss.foldl (fun ps s => rowsP ps (rowsL s.x)) ps
def pots3 : List (List Int) := [[1, 0, 0], [0, 1, 0], [0, 0, 1]]
/-- The parts of acts. -/
def catP (ss : List L2V) : List (List Int) := actsP pots3 ss
/-- Some act tells of a pot, or adds by it. -/
def pinsA (ss : List L2V) (v : Nat) : Bool := ss.any fun s => readsR (rowsL s.x) v
theorem foldl_take {α β : Type} (f : β → α → β) (b : β) (xs : List α) (k : Nat) (d : α) (h : k < xs.length) : (xs.take (k + 1)).foldl f b = f ((xs.take k).foldl f b) (xs[k]?.getD d) := by
  rw [List.take_succ_eq_append_getElem h, List.foldl_append, List.getElem?_eq_getElem h]; rfl
theorem guardsP_snoc (ps : List (List Int)) (fs : List Frm) (k : Nat) (h : k < fs.length) : guardsP ps (fs.take (k + 1)) = addPb (guardsP ps (fs.take k)) (partL (fs[k]?.getD ([], [], 0)).1) := foldl_take _ _ _ _ _ h
theorem rowsP_snoc (ps : List (List Int)) (rs : List RowM) (k : Nat) (h : k < rs.length) : rowsP ps (rs.take (k + 1)) = guardsP (rowsP ps (rs.take k)) (rs[k]?.getD noR).guards := foldl_take _ _ _ _ _ h
theorem actsP_snoc (ps : List (List Int)) (ss : List L2V) (k : Nat) (h : k < ss.length) : actsP ps (ss.take (k + 1)) = rowsP (actsP ps (ss.take k)) (rowsL (ss[k]?.getD noL).x) := foldl_take _ _ _ _ _ h
theorem pinsA_snoc (ss : List L2V) (k : Nat) (h : k < ss.length) (v : Nat) : pinsA (ss.take (k + 1)) v = (pinsA (ss.take k) v || readsR (rowsL (ss[k]?.getD noL).x) v) := by
  rw [pinsA, List.take_succ_eq_append_getElem h, List.any_append, List.getElem?_eq_getElem h]
  simp [pinsA]
theorem has_mem (p : List Int) : ∀ (ps : List (List Int)) (k : Nat), (hasFrom p k ps < 0 ↔ p ∉ ps)
  | [], k => by simp [hasFrom]
  | q :: ps, k => by
    rw [hasFrom]
    by_cases e : q = p
    · subst e; simp [eqB]
    · have h1 : eqB q p = false := by simp [eqB, e]
      rw [h1]
      have := has_mem p ps (k + 1)
      simp only [Bool.false_eq_true, if_false, this, List.mem_cons, not_or]
      exact ⟨fun h => ⟨fun h2 => e h2.symm, h⟩, fun h => h.2⟩
theorem addP_has {ps : List (List Int)} {p : List Int} (h : ¬ hasFrom p 0 ps < 0) : addPb ps p = ps := by
  rw [has_mem] at h
  rw [addPb, if_pos (.inl (Classical.not_not.1 h))]
theorem addP_zero {ps : List (List Int)} {p : List Int} (h : p = [0, 0, 0]) : addPb ps p = ps := by rw [addPb, if_pos (.inr h)]
theorem addP_new {ps : List (List Int)} {p : List Int} (h : hasFrom p 0 ps < 0) (h2 : p ≠ [0, 0, 0]) : addPb ps p = ps ++ [p] := by
  rw [has_mem] at h
  rw [addPb, if_neg (by rintro (h' | h'); exact h h'; exact h2 h')]

theorem Ints.blkB {w : World} {b off n : Nat} {zs : List Int} (h : Ints w (some ⟨b, off, none⟩) n zs) (hn : 0 < n) : b < w.heap.size := by
  obtain ⟨b', o', e, hc⟩ := h.2 0 hn
  simp only [Option.some.injEq, Addr.mk.injEq, and_true] at e
  obtain ⟨rfl, rfl⟩ := e
  exact block_lt hc
/-- A slice of parts, in memory made since w: no part lies in its block. -/
structure JP (w : World) (G cap : Nat) (ts : List IV) (W : World) : Prop where
  b : Below w.heap.size w W
  o : W.ownsRow w.heap.size 26 1 (.slice (some ⟨G, 0, none⟩) ts.length cap) ts.length (ts.map IV.v)
  k : ∀ j, j < ts.length → (ts[j]?.getD noI).n = 3 ∧ Ints W (ts[j]?.getD noI).a 3 (ts[j]?.getD noI).x ∧ ∀ b o, (ts[j]?.getD noI).a = some ⟨b, o, none⟩ → b ≠ G
theorem JP.nil (w W : World) (hb : Below w.heap.size w W) : JP w W.heap.size 0 [] (W.alloc (.cells #[] 26)) :=
  ⟨hb.alloc hb.size _, World.ownsRow_lit W #[] 0 hb.size (by unfold maxLen; omega) rfl, fun j hj => by simp at hj⟩
theorem JP.below {w W W' : World} {G cap : Nat} {ts : List IV} (j : JP w G cap ts W) (h : Below W.heap.size W W') : JP w G cap ts W' :=
  ⟨j.b.trans (h.mono j.b.size), own_below j.o h, fun i hi => by obtain ⟨a, b, c⟩ := j.k i hi; exact ⟨a, b.below h, c⟩⟩
theorem JP.lt {w W : World} {G cap : Nat} {ts : List IV} (j : JP w G cap ts W) : w.heap.size ≤ G ∧ G < W.heap.size := by
  rcases j.o.2 with ⟨h, _⟩ | ⟨g, cap', cur, h, hg, hh, _⟩
  · cases h
  · simp only [Value.slice.injEq, Option.some.injEq, Addr.mk.injEq, and_true, true_and] at h
    obtain ⟨rfl, _⟩ := h
    exact ⟨hg, lt_of_block hh⟩
theorem JP.g {w W : World} {G cap : Nat} {ts : List IV} (j : JP w G cap ts W) : ISG W (some ⟨G, 0, none⟩) ts := fun i hi => by
  obtain ⟨h1, h2, h3⟩ := j.k i hi
  refine ⟨G, 0, rfl, ?_, ?_, by omega⟩
  · rw [Nat.zero_add, own_cell j.o i (by omega), List.getElem?_map, List.getElem?_eq_getElem hi]; rfl
  · rw [h1]; exact h2
theorem JP.app {w W W' : World} {G cap g cp k : Nat} {ts : List IV} {s : IV} {o : Obj} (j : JP w G cap ts W) (hk : ts.length = k) (hs : s.n = 3) (hI : Ints W s.a 3 s.x) (hb : ∀ b o, s.a = some ⟨b, o, none⟩ → b ≠ G)
    (hown : W'.ownsRow w.heap.size 26 1 (.slice (some ⟨g, 0, none⟩) (k + 1) cp) (k + 1) (ts.map IV.v ++ [s.v])) (hg : (W.alloc o).grownBy W' (some G)) (hat : g = G ∨ W.heap.size ≤ g) : JP w g cp (ts ++ [s]) W' := by
  subst hk
  have A : Below W.heap.size W (W.alloc o) := (Below.refl _ _).alloc (Nat.le_refl _) _
  have ja := j.below A
  have T : Touch (fun y => y = G) (W.alloc o) W' := ⟨hg.os, hg.tape, hg.output, hg.size, fun z hz hn => hg.block z hz (fun e => hn (by simpa using e))⟩
  have key : ∀ (a : Option Addr) (x : List Int), Ints W a 3 x → (∀ b o, a = some ⟨b, o, none⟩ → b ≠ G) → Ints W' a 3 x ∧ ∀ b o, a = some ⟨b, o, none⟩ → b ≠ g := fun a x h1 h2 => by
    refine ⟨(h1.below A).offC (fun b o e => h2 b o e) T, fun b o e => ?_⟩
    have h3 := h2 b o e
    subst e
    have := h1.blkB (by omega)
    omega
  refine ⟨ja.b.grown hg ja.b.size (fun z hz => ?_), ?_, fun i hi => ?_⟩
  · have := j.lt
    simp only [Option.some.injEq] at hz
    omega
  · rw [List.length_append, List.map_append]; exact hown
  · by_cases h : i < ts.length
    · rw [List.getElem?_append_left h]
      obtain ⟨a, b, c⟩ := j.k i h
      exact ⟨a, key _ _ b c⟩
    · rw [List.length_append, List.length_singleton] at hi
      obtain rfl : i = ts.length := by omega
      rw [List.getElem?_append_right (Nat.le_refl _), Nat.sub_self]
      exact ⟨hs, key _ _ hI hb⟩

end Go.Proofs.Ytpnldfembbfgdaa
namespace Go.Proofs.Ytpnldfembbfgdaa
open Go.RowKit Go.Deep
set_option linter.unusedVariables false
set_option maxRecDepth 100000

theorem oneSl {a : Option Addr} {n c : Nat} : ∀ u ∈ [Value.slice a n c], u.oneCell' = true := fun u hu => by
  simp at hu; subst hu; rfl
theorem field_C (a : Option Addr) (n ca : Nat) (c : Option Addr) (m cc : Nat) (K : Int) (W : World) : (Instr.field 34 (formV a n ca c m cc K) 0).run Try.prog W = .ok (.slice a n ca) W := by kernel_rfl
theorem OwnB.grown {W W' : World} {Gp G : Nat} {f : Nat → Bool} {o : Obj} (h : OwnB W Gp f) (hg : (W.alloc o).grownBy W' (some G)) (hne : Gp ≠ G) : OwnB W' Gp f := by
  obtain ⟨cur, hc, hv⟩ := h
  exact ⟨cur, (hc.alloc o).grew hg (by simpa using fun e => hne e.symm), hv⟩
/-- Rows that were made since n0; they read on whatever becomes of what is older, and of block G. -/
structure JQ (n0 Gr cr G : Nat) (xs : List Value) (rs : List RowM) (W : World) : Prop where
  o : W.ownsRow n0 25 4 (.slice (some ⟨Gr, 0, none⟩) rs.length cr) rs.length xs
  r : RowsOk W (fun k => k < n0 ∨ k = G) xs rs
  ne : Gr ≠ G
theorem JQ.of {w W : World} {Gr cr G : Nat} {xs : List Value} {rs : List RowM} (j : JR w Gr cr xs rs W) (hG : G < w.heap.size) : JQ w.heap.size Gr cr G xs rs W :=
  ⟨j.o, j.r.map (fun _ _ f => f.mono (fun k hk => Or.inl (by omega))), by have := j.lt; omega⟩
theorem JQ.lt {n0 Gr cr G : Nat} {xs : List Value} {rs : List RowM} {W : World} (j : JQ n0 Gr cr G xs rs W) : n0 ≤ Gr ∧ Gr < W.heap.size := by
  rcases j.o.2 with ⟨h, _⟩ | ⟨g, cap', cur, h, hg, hh, _⟩
  · cases h
  · simp only [Value.slice.injEq, Option.some.injEq, Addr.mk.injEq, and_true, true_and] at h
    obtain ⟨rfl, _⟩ := h
    exact ⟨hg, lt_of_block hh⟩
theorem JQ.below {n0 Gr cr G : Nat} {xs : List Value} {rs : List RowM} {W W' : World} (j : JQ n0 Gr cr G xs rs W) (b : Below W.heap.size W W') : JQ n0 Gr cr G xs rs W' :=
  ⟨own_below j.o b, j.r.map (fun _ _ f => f.below b), j.ne⟩
theorem JQ.grown {n0 Gr cr G g : Nat} {xs : List Value} {rs : List RowM} {W W' : World} {o : Obj} (j : JQ n0 Gr cr G xs rs W) (hg : (W.alloc o).grownBy W' (some G)) (hat : g = G ∨ W.heap.size < g) : JQ n0 Gr cr g xs rs W' := by
  have A : Below W.heap.size W (W.alloc o) := (Below.refl _ _).alloc (Nat.le_refl _) _
  have ja := j.below A
  have T : Touch (fun y => y = G) (W.alloc o) W' := ⟨hg.os, hg.tape, hg.output, hg.size, fun z hz hn => hg.block z hz (fun e => hn (by simpa using e))⟩
  refine ⟨own_off ja.o (fun z hz hs => ?_) T, ja.r.map (fun _ _ f => f.grown hg (by rw [World.size_alloc]; omega)), ?_⟩
  · have hz' : some Gr = some z := hz
    simp only [Option.some.injEq] at hz'
    exact j.ne (by omega)
  · have := j.lt
    have := j.ne
    omega
theorem pots3_take {k : Nat} (h : k < 3) : pots3.take (k + 1) = pots3.take k ++ [([0, 0, 0] : List Int).set k 1] := by
  match k, h with
  | 0, _ => rfl
  | 1, _ => rfl
  | 2, _ => rfl
theorem partL_len3 {f : Frm} {M : Int} (h : fitX M f) : (partL f.1).length = 3 := by
  rw [part_len]; exact h.1

set_option maxHeartbeats 12800000 in
theorem sboth_any (ad : Option Addr) (N cap : Nat) (ss : List L2V) (w : World) (hN : ss.length = N) (hF : LSG w ad ss) (hok : ss.all L2V.ok = true) (hN4 : N ≤ 4) :
    Calls Try.prog 81 #[.slice ad N cap] w fun e w' => ∃ G cG ts nt Gp cp, e = .returned (.tuple #[.slice (some ⟨G, 0, none⟩) nt cG, .slice (some ⟨Gp, 0, none⟩) 3 cp]) ∧ ts.length = nt ∧ JP w G cG ts w' ∧ ts.map IV.x = catP ss ∧ nt ≤ 600000 ∧ OwnB w' Gp (pinsA ss) ∧ w.heap.size ≤ Gp := by
  have HN : Hid (ss.length = N) := hN
  have HOK : Hid (ss.all L2V.ok = true) := hok
  have HF : Hid (LSG w ad ss) := hF
  clear hN hok hF
  obtain ⟨i0, hi, hz0, hz1, hz2⟩ := info_parts Try.infoI
  have b0 : Below w.heap.size w ((w.alloc (.cells #[] 26)).alloc (.cells #[.bool false, .bool false, .bool false] 4)) := ((Below.refl _ _).alloc (Nat.le_refl _) _).alloc (by simp) _
  have j0 : JP w w.heap.size 0 [] ((w.alloc (.cells #[] 26)).alloc (.cells #[.bool false, .bool false, .bool false] 4)) := (JP.nil w w (Below.refl _ _)).below ((Below.refl _ _).alloc (Nat.le_refl _) _)
  have p0 : OwnB ((w.alloc (.cells #[] 26)).alloc (.cells #[.bool false, .bool false, .bool false] 4)) (w.heap.size + 1) (pinsA (ss.take 0)) := by
    refine ⟨[.bool false, .bool false, .bool false], ?_, fun v hv => ?_⟩
    · have := Cel.new (w.alloc (.cells #[] 26)) [.bool false, .bool false, .bool false] 4
      rw [World.size_alloc] at this; exact this
    · match v, hv with
      | 0, _ => simp [pinsA]
      | 1, _ => simp [pinsA]
      | 2, _ => simp [pinsA]
  go_enter Try.func81, Try.ntmps81
  go_wp2_with fail
  go_loopw [4, 6] (fun out v wr => ∃ (k G cG : Nat) (ts : List IV), k ≤ 3 ∧ v = .int .i64 k ∧ out = .slice (some ⟨G, 0, none⟩) k cG ∧ ts.length = k ∧ JP w G cG ts wr ∧ ts.map IV.x = pots3.take k ∧ OwnB wr (w.heap.size + 1) (pinsA (ss.take 0)) ∧ w.heap.size + 1 ≠ G) (fun _ v _ => 3 - (intOf v).toNat)
  case atStart => exact ⟨0, _, _, [], by omega, rfl, rfl, rfl, j0, rfl, p0, by omega⟩
  case round =>
    clear j0 p0 b0
    obtain ⟨k, G, cG, ts, hk, rfl, rfl, hl, jp, hx, p, pne⟩ := hrel
    have HL : Hid (ts.length = k) := hl
    have HX : Hid (ts.map IV.x = pots3.take k) := hx
    clear hl hx
    by_cases hlt : k < 3
    · have hlt' : (k : Int) < 3 := by omega
      have HP : Hid (potC (k : Int) = [0, 0, 0].set k 1) := potC_in _ k rfl (by omega)
      have lG := jp.lt
      go_wp2_with fail
      refine (spot_any _ _).mono ?_
      rintro e w1 ⟨a, n, ca, c, m, cc, B1, B2, rfl, hn, hm, b1, o1, o2, g1, g2, ne⟩
      have hn3 : n = 3 := by rw [← hn, HP.out]; simp
      subst hn3
      have I1 : Ints w1 a 3 (potC (k : Int)) := o1.ints' hn
      have Hne : Hid (∀ b o, a = some ⟨b, o, none⟩ → b ≠ G) := fun b o e => by
        rcases o1 with h | ⟨h, _⟩
        · rw [h] at hn; cases hn
        · rw [h] at e
          simp only [Option.some.injEq, Addr.mk.injEq, and_true] at e
          have := g1 (by omega)
          omega
      have jp1 := jp.below b1
      have p1 := p.below b1
      have jo := jp1.o
      rw [HL.out] at jo
      have js := jp1.b.size
      have hfl : ∀ W, (Instr.field 34 (formV a 3 ca c m cc 0) 0).run Try.prog W = .ok (.slice a 3 ca) W := fun W => field_C a 3 ca c m cc 0 W
      clear jp p b1 o1 o2 hn hm ne g1 g2
      go_wp2_with (at_builtin; go_must (refine wpList_append_lies _ rfl (.tmp 18) (.tmp 22) 46 rfl w.heap.size 26 i0 _ 1 24 Try.underlying46 hi hz0 hz1 hz2 rfl (by decide) _ _ _ rfl (jo.alloc _) ⟨w1.heap.size, 0, none⟩ 1 1 [.slice a 3 ca] rfl rfl (news1 w1 _ _) oneSl (by omega) (by unfold maxLen; omega) (by omega) (by rw [World.size_alloc]; omega) _ rfl ?_); intro g cp2 w2 hown hgrow hat hlt1)
      have hat' : g = G ∨ w1.heap.size ≤ g := by
        rcases hat with h | h
        · have h' : some G = some g := h
          simp only [Option.some.injEq] at h'
          exact Or.inl h'.symm
        · rw [World.size_alloc] at h
          exact Or.inr (by omega)
      have jp2 := jp1.app (s := ⟨a, 3, ca, potC (k : Int)⟩) HL.out rfl I1 Hne.out hown hgrow hat'
      have lp1 := p1.lt
      have p2 := p1.grown hgrow pne
      have pne2 : w.heap.size + 1 ≠ g := by omega
      have HX2 : Hid ((ts ++ [(⟨a, 3, ca, potC (k : Int)⟩ : IV)]).map IV.x = pots3.take (k + 1)) := by
        show _ = _
        rw [List.map_append, HX.out, pots3_take hlt, ← HP.out]; rfl
      have HL2 : Hid ((ts ++ [(⟨a, 3, ca, potC (k : Int)⟩ : IV)]).length = k + 1) := by show _ = _; rw [List.length_append, HL.out]; rfl
      clear hown hgrow hat jo jp1 p1 I1 Hne
      go_wp2
      go_roundw
      case rel => exact ⟨k + 1, g, cp2, _, by omega, by go_num, rfl, HL2.out, jp2, HX2.out, p2, pne2⟩
      case measure => simp [intOf]; omega
    · obtain rfl : k = 3 := by omega
      have HX3 : Hid (ts.map IV.x = actsP pots3 (ss.take 0)) := HX.out
      have hb3 := jp.b
      clear HX
      go_wp2_with fail
      go_loopw [4, 5, 7, 8, 9, 10, 11] (fun out pins i _ _ _ _ wr => ∃ (ia G cG nt Gp cp : Nat) (ts : List IV), ia ≤ N ∧ i = .int .i64 ia ∧ out = .slice (some ⟨G, 0, none⟩) nt cG ∧ pins = .slice (some ⟨Gp, 0, none⟩) 3 cp ∧ ts.length = nt ∧ nt ≤ 3 + 128000 * ia ∧ JP w G cG ts wr ∧ ts.map IV.x = actsP pots3 (ss.take ia) ∧ OwnB wr Gp (pinsA (ss.take ia)) ∧ w.heap.size ≤ Gp ∧ Gp ≠ G) (fun _ _ i _ _ _ _ _ => N - (intOf i).toNat)
      case atStart => exact ⟨0, G, cG, 3, w.heap.size + 1, 3, ts, by omega, rfl, rfl, rfl, HL.out, by omega, jp, HX3.out, p, by omega, pne⟩
      case round =>
        clear jp p pne HX3 HL hb3 hlt hk
        obtain ⟨ia, G, cG, nt, Gp, cp, ts, hia, rfl, rfl, rfl, hl, hnt, jp, hx, p, lGp, pne⟩ := hrel
        have HL : Hid (ts.length = nt) := hl
        have HX : Hid (ts.map IV.x = actsP pots3 (ss.take ia)) := hx
        clear hl hx
        by_cases hlt : ia < N
        · have hlt' : (ia : Int) < N := by omega
          have his : ia < ss.length := by rw [HN.out]; exact hlt
          obtain ⟨ab, ao, rfl, hc, hLG⟩ := (HF.out.below jp.b) ia his
          have HSA : Hid (∀ ps, ps = actsP pots3 (ss.take ia) → rowsP ps (rowsL (ss[ia]?.getD noL).x) = actsP pots3 (ss.take (ia + 1))) := fun ps h => by rw [h, actsP_snoc _ _ _ his]
          have HSB : Hid (∀ v, pinsA (ss.take (ia + 1)) v = (pinsA (ss.take ia) v || readsR (rowsL (ss[ia]?.getD noL).x) v)) := fun v => pinsA_snoc ss ia his v
          have hsok : (ss[ia]?.getD noL).ok = true := by
            rw [List.getElem?_eq_getElem his]
            exact List.all_eq_true.1 HOK.out _ (List.getElem_mem his)
          obtain ⟨s, hs⟩ : ∃ s, s = ss[ia]?.getD noL := ⟨_, rfl⟩
          rw [← hs] at hc hLG HSA HSB hsok
          obtain ⟨sa, sn, sc, sx⟩ := s
          have hAct : actB sn sx = true := hsok
          obtain ⟨hxl, hLin, hsn⟩ := hLG
          have hc' : wr.cell? ⟨ab, ao + ia, none⟩ = some (.slice sa sn sc) := hc
          have HXL : Hid (sx.length = sn) := hxl
          have HLIN : Hid (LinesG wr sa sx) := hLin
          have lG := jp.lt
          clear hs hc hsok hxl hLin
          have HAC : Hid (actB sn sx = true) := hAct
          clear hAct
          go_wp2_with fail
          refine (srows_any _ _ _ sx _ HXL.out HLIN.out hsn).mono ?_
          rw [show rowsB sn sx = rowsL sx from by rw [rowsB, HAC.out]; rfl]
          rintro ee w3 ⟨Gr, cr, xs, rfl, j3⟩
          have HFIT : Hid (∀ r ∈ rowsL sx, RowFit r) := rowsL_fit (by rw [HXL.out]; exact (actB_parts HAC.out).1) (actB_parts HAC.out).2 HLIN.out
          have jq3 : JQ wr.heap.size Gr cr G xs (rowsL sx) w3 := JQ.of j3 lG.2
          have p3 := p.below j3.b
          have jp3 := jp.below j3.b
          obtain ⟨R, hR⟩ : ∃ R, R = rowsL sx := ⟨_, rfl⟩
          have HSA' : Hid (∀ ps, ps = actsP pots3 (ss.take ia) → rowsP ps R = actsP pots3 (ss.take (ia + 1))) := fun ps h => by rw [hR]; exact HSA.out ps h
          have HSB' : Hid (∀ v, pinsA (ss.take (ia + 1)) v = (pinsA (ss.take ia) v || readsR R v)) := fun v => by rw [hR]; exact HSB.out v
          have q1 : R.length ≤ 128 := by rw [hR]; exact goW_128 (by omega)
          rw [← hR] at jq3 HFIT ⊢
          obtain ⟨n0, hn0⟩ : ∃ n0, n0 = wr.heap.size := ⟨_, rfl⟩
          rw [← hn0] at jq3
          obtain ⟨PS, hPS⟩ : ∃ PS, PS = actsP pots3 (ss.take ia) := ⟨_, rfl⟩
          obtain ⟨PB, hPB⟩ : ∃ PB, PB = pinsA (ss.take ia) := ⟨_, rfl⟩
          obtain ⟨pinK, hpin⟩ : ∃ pinK : Nat → Nat → Bool, pinK = fun k v => PB v || readsR (R.take k) v := ⟨_, rfl⟩
          have HPK : Hid (pinK = fun k v => PB v || readsR (R.take k) v) := hpin
          have p4 : OwnB w3 Gp (pinK 0) := p3.ext (fun v _ => by rw [hpin, hPB]; simp [readsR])
          have HX0 : Hid (ts.map IV.x = rowsP PS (R.take 0)) := by show _ = _; rw [HX.out, hPS]; rfl
          have HSA2 : Hid (rowsP PS R = actsP pots3 (ss.take (ia + 1))) := HSA'.out PS hPS
          have HSB2 : Hid (∀ v, pinsA (ss.take (ia + 1)) v = pinK R.length v) := fun v => by rw [HSB'.out v, hpin, hPB]; dsimp only; rw [List.take_of_length_le (Nat.le_refl _)]
          clear j3 hR HSA HSB HSA' HSB' hn0 hPS hPB hpin p p3 jp HX HLIN HXL HAC hc'
          go_wp2_with fail
          go_loopw [4, 5, 9, 10, 11] (fun out pins i _ _ wr => ∃ (k G cG nt Gp cp : Nat) (ts : List IV), k ≤ R.length ∧ i = .int .i64 k ∧ out = .slice (some ⟨G, 0, none⟩) nt cG ∧ pins = .slice (some ⟨Gp, 0, none⟩) 3 cp ∧ ts.length = nt ∧ nt ≤ 3 + 128000 * ia + 1000 * k ∧ JP w G cG ts wr ∧ ts.map IV.x = rowsP PS (R.take k) ∧ OwnB wr Gp (pinK k) ∧ w.heap.size ≤ Gp ∧ Gp ≠ G ∧ JQ n0 Gr cr G xs R wr) (fun _ _ i _ _ _ => R.length - (intOf i).toNat)
          case atStart => exact ⟨0, G, cG, nt, Gp, cp, ts, by omega, rfl, rfl, rfl, HL.out, by omega, jp3, HX0.out, p4, lGp, pne, jq3⟩
          case round =>
            clear jp3 p4 pne HX0 HL jq3 hnt lGp lG
            obtain ⟨k, Go, cGo, nt, G, cG, ts, hk, rfl, rfl, rfl, hl, hnt, jp, hx, o, lGp, pne, j⟩ := hrel
            have HL : Hid (ts.length = nt) := hl
            have HX : Hid (ts.map IV.x = rowsP PS (R.take k)) := hx
            have hb := jp.b
            clear hl hx
            by_cases hlt3 : k < R.length
            · have hlt3' : (k : Int) < R.length := by omega
              obtain ⟨ga, gc, aa, ac, ta, tc, x0, x1, x2, x3, f0, f1, f2⟩ := j.r k hlt3
              have HSP : Hid (∀ v, pinK (k + 1) v = readsF (readsF (pinK k) (R[k]?.getD noR).adds) (R[k]?.getD noR).tells v) := fun v => by
                rw [HPK.out]
                show (PB v || readsR (R.take (k + 1)) v) = _
                rw [readsR_snoc R k hlt3 v]
                simp [readsF, Bool.or_assoc]
              have HSG : Hid (∀ ps, ps = rowsP PS (R.take k) → guardsP ps (R[k]?.getD noR).guards = rowsP PS (R.take (k + 1))) := fun ps h => by rw [h, rowsP_snoc _ _ _ hlt3]
              have hfit : RowFit (R[k]?.getD noR) := HFIT.out _ (by rw [List.getElem?_eq_getElem hlt3]; exact List.getElem_mem hlt3)
              have HRK : Hid (∀ W, JQ n0 Gr cr Go xs R W → True) := fun _ _ => trivial
              obtain ⟨q, hq⟩ : ∃ q, q = R[k]?.getD noR := ⟨_, rfl⟩
              have HQ : Hid (q = R[k]?.getD noR) := hq
              rw [← hq] at x0 x1 x2 x3 f0 f1 f2 HSP HSG hfit
              have HA : Hid _ := hfit.a
              have HTt : Hid _ := hfit.t
              have HGf : Hid _ := hfit.g
              have la := hfit.la
              have lt := hfit.lt
              have lgq := hfit.lg
              have sl := j.o.1
              have n1 := (own_cell j.o (k * 4 + 1) (by omega)).trans x1
              have n2 := (own_cell j.o (k * 4 + 2) (by omega)).trans x2
              have lGr := j.lt
              have FA := f1.at
              have FT := f2.at
              have KP : Hid (∀ W, Below wr.heap.size wr W → (W.cell? ⟨Gr, k * 4 + 1, none⟩ = some (.slice aa q.adds.length ac) ∧ W.cell? ⟨Gr, k * 4 + 2, none⟩ = some (.slice ta q.tells.length tc))) := fun W hW => ⟨(hW.cell (p := ⟨Gr, k * 4 + 1, none⟩) lGr.2).trans n1, (hW.cell (p := ⟨Gr, k * 4 + 2, none⟩) lGr.2).trans n2⟩
              have e0 : Below wr.heap.size wr wr.drew := (Below.refl _ _).drew
              have hSS := And.intro (KP.out _ e0) (True.intro)
              have lGo := jp.lt
              clear hfit x0 x1 x2 x3 f0 f1 f2 hq
              go_upto_region 14 with fail
              refine wp_region_ends (fun w' => w'.cell? ⟨Gr, k * 4 + 1, none⟩ = some (.slice aa q.adds.length ac) ∧ w'.cell? ⟨Gr, k * 4 + 2, none⟩ = some (.slice ta q.tells.length tc)) (fun _ => True) 13 (by kernel_rfl) ?_
              refine wpAnyE_take0 (i := 0) (v := ?v0) rfl (by kernel_rfl) (by kernel_rfl) (by kernel_rfl) (by decide) (fun _ _ _ h => h) (Or.inl ⟨by rfl, ?hy0⟩) hSS ?_
              case hy0 => (intro wz hSw; (try dsimp only at hSw); go_simp; try (with_reducible rfl))
              refine wpAnyE_take0 (i := 1) (v := ?v1) rfl (by kernel_rfl) (by kernel_rfl) (by kernel_rfl) (by decide) (fun _ _ _ h => h) (Or.inl ⟨by rfl, ?hy1⟩) hSS ?_
              case hy1 => (intro wz hSw; (try dsimp only at hSw); go_simp; try (with_reducible rfl))
              refine wpAnyE_take0 (i := 2) (v := ?v2) rfl (by kernel_rfl) (by kernel_rfl) (by kernel_rfl) (by decide) (fun _ _ _ h => h) (Or.inl ⟨by rfl, ?hy2⟩) hSS ?_
              case hy2 => (intro wz hSw; (try dsimp only at hSw); go_simp; try (with_reducible rfl))
              refine wpAnyE_take0 (i := 3) (v := ?v3) rfl (by kernel_rfl) (by kernel_rfl) (by kernel_rfl) (by decide) (fun _ _ _ h => h) (Or.inl ⟨by rfl, ?hy3⟩) hSS ?_
              case hy3 => (intro wz hSw; (try dsimp only at hSw); go_simp; try (with_reducible rfl))
              refine wpAnyE_take0 (i := 4) (v := ?v4) rfl (by kernel_rfl) (by kernel_rfl) (by kernel_rfl) (by decide) (fun _ _ _ h => h) (Or.inl ⟨by rfl, ?hy4⟩) hSS ?_
              case hy4 => (intro wz hSw; (try dsimp only at hSw); go_simp; try (with_reducible rfl))
              refine wpAnyE_take0 (i := 5) (v := ?v5) rfl (by kernel_rfl) (by kernel_rfl) (by kernel_rfl) (by decide) (fun _ _ _ h => h) (Or.inl ⟨by rfl, ?hy5⟩) hSS ?_
              case hy5 => (intro wz hSw; (try dsimp only at hSw); go_simp; try (with_reducible rfl))
              refine wpAnyE_take0 (i := 7) (v := ?v7) rfl (by kernel_rfl) (by kernel_rfl) (by kernel_rfl) (by decide) (fun _ _ _ h => h) (Or.inl ⟨by rfl, ?hy7⟩) hSS ?_
              case hy7 => (intro wz hSw; (try dsimp only at hSw); go_simp; try (with_reducible rfl))
              refine wpAnyE_take0 (i := 8) (v := ?v8) rfl (by kernel_rfl) (by kernel_rfl) (by kernel_rfl) (by decide) (fun _ _ _ h => h) (Or.inl ⟨by rfl, ?hy8⟩) hSS ?_
              case hy8 => (intro wz hSw; (try dsimp only at hSw); go_simp; try (with_reducible rfl))
              refine wpAnyE_take0 (i := 9) (v := ?v9) rfl (by kernel_rfl) (by kernel_rfl) (by kernel_rfl) (by decide) (fun _ _ _ h => h) (Or.inl ⟨by rfl, ?hy9⟩) hSS ?_
              case hy9 => (intro wz hSw; (try dsimp only at hSw); go_simp; try (with_reducible rfl))
              refine wpAnyE_take0 (i := 10) (v := ?v10) rfl (by kernel_rfl) (by kernel_rfl) (by kernel_rfl) (by decide) (fun _ _ _ h => h) (Or.inl ⟨by rfl, ?hy10⟩) hSS ?_
              case hy10 => (intro wz hSw; (try dsimp only at hSw); go_simp; try (with_reducible rfl))
              refine wpAnyE_take0 (i := 11) (v := ?v11) rfl (by kernel_rfl) (by kernel_rfl) (by kernel_rfl) (by decide) (fun _ _ _ h => h) (Or.inl ⟨by rfl, ?hy11⟩) hSS ?_
              case hy11 => (intro wz hSw; (try dsimp only at hSw); go_simp; try (with_reducible rfl))
              clear hSS
              refine wpAnyE_one (i := 6) (by kernel_rfl) rfl (fun K hK => ?_)
              go_simp
              refine (sreads_any _ _ _ _ _ _ q.adds _ (o.bools.below e0) rfl (FA.keep e0) HA.out (by omega)).mono ?_
              rintro ee w4 ⟨G4, c4, rfl, bd4, l4, o4⟩
              have b4 := below_of_drew bd4
              have l4x : wr.heap.size ≤ G4 := l4
              clear bd4 l4
              (try dsimp only)
              refine hK.out _ _ ⟨KP.out _ b4, fun _ => trivial⟩ ?_
              clear hK K
              refine wpAnyE_one (i := 12) (by kernel_rfl) rfl (fun K hK => ?_)
              go_simp
              refine (sreads_any _ _ _ _ _ _ q.tells _ o4.bools rfl (FT.keep b4) HTt.out (by omega)).mono ?_
              rintro ee w5 ⟨G5, c5, rfl, bd5, l5, o5⟩
              have b5 := b4.trans (bd5.mono b4.size)
              have s4 := b4.size
              have sb := hb.size
              have O5 : Hid (OwnB w5 G5 (pinK (k + 1))) := o5.ext (fun v _ => (HSP.out v).symm)
              have J5 := j.below b5
              have P5 := jp.below b5
              have B5 := hb.trans (b5.mono hb.size)
              clear bd5 o4 o5 o j jp
              (try dsimp only)
              refine hK.out _ _ ⟨KP.out _ b5, fun _ => trivial⟩ ?_
              clear hK K
              refine wpAnyE_one (i := 13) (by kernel_rfl) rfl (fun K hK => ?_)
              go_simp
              refine hK.out _ _ ⟨KP.out _ b5, fun _ => trivial⟩ ?_
              clear hK K
              refine wpAnyE_done (by kernel_rfl) ?_ _
              clear KP b4 b5 FA FT n1 n2
              have pne5 : G5 ≠ Go := by omega
              have lG5 : w.heap.size ≤ G5 := by omega
              obtain ⟨PG, hPG⟩ : ∃ PG, PG = rowsP PS (R.take k) := ⟨_, rfl⟩
              have HSG2 : Hid (guardsP PG q.guards = rowsP PS (R.take (k + 1))) := HSG.out PG hPG
              have HXG : Hid (ts.map IV.x = guardsP PG (q.guards.take 0)) := by show _ = _; rw [HX.out, hPG]; rfl
              obtain ⟨NG, hNG⟩ : ∃ NG, NG = q.guards.length := ⟨_, rfl⟩
              have HNG : Hid (NG = q.guards.length) := hNG
              rw [← hNG] at lgq
              clear hPG HSG HX HSP hNG hb lGp pne sl lGr lGo e0
              go_wp2_with fail
              go_loopw [4, 10, 11] (fun out i _ wr => ∃ (g G cG nt : Nat) (ts : List IV), g ≤ NG ∧ i = .int .i64 g ∧ out = .slice (some ⟨G, 0, none⟩) nt cG ∧ ts.length = nt ∧ nt ≤ 3 + 128000 * ia + 1000 * k + g ∧ JP w G cG ts wr ∧ ts.map IV.x = guardsP PG (q.guards.take g) ∧ OwnB wr G5 (pinK (k + 1)) ∧ G5 ≠ G ∧ JQ n0 Gr cr G xs R wr) (fun _ i _ _ => NG - (intOf i).toNat)
              case atStart => exact ⟨0, Go, cGo, nt, ts, by omega, rfl, rfl, HL.out, by omega, P5, HXG.out, O5.out, pne5, J5⟩
              case round =>
                clear O5 P5 J5 HXG HL pne5 hnt B5 l5 s4 sb
                obtain ⟨g, G, cG, nt, ts, hg, rfl, rfl, hl, hnt, jp, hx, o, pne, j⟩ := hrel
                have HL : Hid (ts.length = nt) := hl
                have HX : Hid (ts.map IV.x = guardsP PG (q.guards.take g)) := hx
                clear hl hx
                obtain ⟨ga, gc, aa, ac, ta, tc, x0, x1, x2, x3, f0, f1, f2⟩ := j.r k hlt3
                rw [← HQ.out] at x0 f0
                have sl := j.o.1
                have n0' := (own_cell j.o (k * 4) (by omega)).trans x0
                rw [← HNG.out] at n0'
                have lGr := j.lt
                have lG := jp.lt
                by_cases hlt4 : g < NG
                · have hlt4' : (g : Int) < NG := by omega
                  have hgl : g < q.guards.length := by rw [← HNG.out]; exact hlt4
                  have HSX : Hid (guardsP PG (q.guards.take (g + 1)) = addPb (guardsP PG (q.guards.take g)) (partL (q.guards[g]?.getD ([], [], 0)).1)) := guardsP_snoc PG q.guards g hgl
                  have hl3 : (partL (q.guards[g]?.getD ([], [], 0)).1).length = 3 := partL_len3 (HGf.out g hgl)
                  obtain ⟨fb, fo, rfl, a', c', ca, cc, c0, c1, c2, iC, iD⟩ := f0.at g hgl
                  generalize (q.guards[g]?.getD ([], [], 0)).1 = C at *
                  generalize (q.guards[g]?.getD ([], [], 0)).2.2 = kz at *
                  have HPL : Hid ((partL C).length = 3) := hl3
                  clear f0 f1 f2 x0 x1 x2 x3 iD hl3
                  go_wp2_with fail
                  refine (spart_new _ 3 _ _ 2 _ _ C _ iC (by omega)).mono ?_
                  rintro ee w6 ⟨pa, pc, rfl, b6, i6, l6⟩
                  have jp6 := jp.below b6
                  have o6 := o.below b6
                  have j6 := j.below b6
                  have HL6 : Hid (∀ b o, pa = some ⟨b, o, none⟩ → b ≠ G) := fun b o e => by have := (l6 b o e).1; omega
                  clear jp o j b6 iC c0 c1 c2 n0' l6 lG lGr
                  go_wp2_with fail
                  refine (shas_any _ nt cG ts _ 3 _ (partL C) _ HL.out jp6.g (by omega) i6 (by omega)).mono ?_
                  rintro ee w7 ⟨rfl, b7⟩
                  have jp7 := jp6.below b7
                  have o7 := o6.below b7
                  have j7 := j6.below b7
                  have i7 := i6.below b7
                  obtain ⟨hv, hhv⟩ : ∃ hv, hv = hasI ts (partL C) := ⟨_, rfl⟩
                  have HV : Hid (hv = hasFrom (partL C) 0 (guardsP PG (q.guards.take g))) := by show _ = _; rw [hhv, hasI, HX.out]
                  rw [← hhv]
                  clear jp6 o6 j6 i6 b7 hhv
                  by_cases hneg : hv < 0
                  · go_wp2_with fail
                    refine (szero_any _).mono ?_
                    rintro ee w8 ⟨B1, B2, rfl, b8, y1, y12, y2, k1, k2⟩
                    have hfl : ∀ W, (Instr.field 34 (formV (some ⟨B1, 0, none⟩) 3 3 (some ⟨B2, 0, none⟩) 2 2 0) 0).run Try.prog W = .ok (.slice (some ⟨B1, 0, none⟩) 3 3) W := fun W => field_C _ _ _ _ _ _ _ W
                    have jp8 := jp7.below b8
                    have o8 := o7.below b8
                    have j8 := j7.below b8
                    have i8 := i7.below b8
                    clear jp7 o7 j7 i7 b8 y1 y12 y2 k2
                    go_wp2_with fail
                    refine (l4same_any _ _ 3 3 _ _ (partL C) [0, 0, 0] _ i8 (k1.ints' rfl) (by omega) (by omega)).mono ?_
                    rintro ee w9 ⟨rfl, b9⟩
                    have jp9 := jp8.below b9
                    have o9 := o8.below b9
                    have j9 := j8.below b9
                    have i9 := i8.below b9
                    clear jp8 o8 j8 i8 b9 k1 hfl
                    cases hz : eqB (partL C) [0, 0, 0]
                    · have HNZ : Hid (partL C ≠ [0, 0, 0]) := fun e => by rw [e] at hz; simp [eqB] at hz
                      have jo := jp9.o
                      rw [HL.out] at jo
                      have js := jp9.b.size
                      have lo9 := o9.lt
                      clear hz
                      go_wp2_with (at_builtin; go_must (refine wpList_append_lies _ rfl (.tmp 84) (.tmp 86) 46 rfl w.heap.size 26 i0 _ 1 24 Try.underlying46 hi hz0 hz1 hz2 rfl (by decide) _ _ _ rfl (jo.alloc _) ⟨w9.heap.size, 0, none⟩ 1 1 [.slice pa 3 pc] rfl rfl (news1 w9 _ _) oneSl (by omega) (by unfold maxLen; omega) (by omega) (by rw [World.size_alloc]; omega) _ rfl ?_); intro gg cp2 w10 hown hgrow hat hlt1)
                      have hat' : gg = G ∨ w9.heap.size < gg := by
                        rcases hat with h | h
                        · have h' : some G = some gg := h
                          simp only [Option.some.injEq] at h'
                          exact Or.inl h'.symm
                        · rw [World.size_alloc] at h
                          exact Or.inr (by omega)
                      have jp10 := jp9.app (s := ⟨pa, 3, pc, partL C⟩) HL.out rfl i9 HL6.out hown hgrow (by omega)
                      have o10 := o9.grown hgrow pne
                      have j10 := j9.grown hgrow hat'
                      have HXa : Hid ((ts ++ [(⟨pa, 3, pc, partL C⟩ : IV)]).map IV.x = guardsP PG (q.guards.take (g + 1))) := by
                        show _ = _
                        rw [List.map_append, HX.out, HSX.out, addP_new (by rw [← HV.out]; exact hneg) HNZ.out]; rfl
                      have HLa : Hid ((ts ++ [(⟨pa, 3, pc, partL C⟩ : IV)]).length = nt + 1) := by show _ = _; rw [List.length_append, HL.out]; rfl
                      have pne10 : G5 ≠ gg := by omega
                      clear hown hgrow hat jo jp9 o9 j9 i9 HL6 HNZ
                      go_wp2
                      go_roundw
                      case rel => exact ⟨g + 1, gg, cp2, nt + 1, _, by omega, by go_num, rfl, HLa.out, by omega, jp10, HXa.out, o10, pne10, j10⟩
                      case measure => simp [intOf]; omega
                    · have HXa : Hid (ts.map IV.x = guardsP PG (q.guards.take (g + 1))) := by
                        show _ = _
                        rw [HX.out, HSX.out, addP_zero (by simpa [eqB] using hz)]
                      clear hz HX
                      go_wp2
                      go_roundw
                      case rel => exact ⟨g + 1, G, cG, nt, ts, by omega, by go_num, rfl, HL.out, by omega, jp9, HXa.out, o9, pne, j9⟩
                      case measure => simp [intOf]; omega
                  · have HXa : Hid (ts.map IV.x = guardsP PG (q.guards.take (g + 1))) := by
                      show _ = _
                      rw [HX.out, HSX.out, addP_has (by rw [← HV.out]; exact hneg)]
                    clear HX
                    go_wp2
                    go_roundw
                    case rel => exact ⟨g + 1, G, cG, nt, ts, by omega, by go_num, rfl, HL.out, by omega, jp7, HXa.out, o7, pne, j7⟩
                    case measure => simp [intOf]; omega
                · obtain rfl : g = NG := by omega
                  have HXe : Hid (ts.map IV.x = rowsP PS (R.take (k + 1))) := by
                    show _ = _
                    rw [HX.out, List.take_of_length_le (by rw [← HNG.out]; exact Nat.le_refl _), HSG2.out]
                  clear f0 f1 f2 x0 x1 x2 x3 HX
                  go_wp2
                  go_roundw
                  case rel => exact ⟨k + 1, G, cG, nt, G5, c5, ts, by omega, by go_num, rfl, rfl, HL.out, by omega, jp, HXe.out, o, lG5, pne, j⟩
                  case measure => simp [intOf]; omega
            · obtain rfl : k = R.length := by omega
              have HXe : Hid (ts.map IV.x = actsP pots3 (ss.take (ia + 1))) := by
                show _ = _
                rw [HX.out, List.take_of_length_le (Nat.le_refl _), HSA2.out]
              have oe : OwnB wr G (pinsA (ss.take (ia + 1))) := o.ext (fun v _ => (HSB2.out v).symm)
              clear o HX
              go_wp2
              go_roundw
              case rel =>
                refine ⟨_, _, _, _, _, _, _, _, _, _, _, _, _, _, _, _, _, _, _, _, _, _, _, _, _, _, _, _, _, _, _, _, _, _, _, _, _, _, _, _, _, _, _, _, _, _, _, _, _, _, _, _, _, _, _, _, _, _, _, _, _, _, _, _, _, _, _, _, _, _, _, ?_, rfl⟩
                exact ⟨ia + 1, Go, cGo, nt, G, cG, ts, by omega, by go_num, rfl, rfl, HL.out, by omega, jp, HXe.out, oe, lGp, pne⟩
              case measure => simp [intOf]; omega
        · obtain rfl : ia = N := by omega
          have hall : ss.take ia = ss := List.take_of_length_le (by rw [HN.out]; exact Nat.le_refl _)
          have HXe : Hid (ts.map IV.x = catP ss) := by show _ = _; rw [HX.out, hall]; rfl
          have oe : OwnB wr Gp (pinsA ss) := by rw [hall] at p; exact p
          clear hall p HX
          go_wp2
          go_ret2
          exact ⟨G, cG, ts, nt, Gp, cp, rfl, HL.out, jp, HXe.out, by omega, oe, lGp⟩

end Go.Proofs.Ytpnldfembbfgdaa
namespace Go.Proofs.Ytpnldfembbfgdaa
open Go.RowKit Go.Deep
set_option linter.unusedVariables false
set_option maxRecDepth 100000

theorem put4 {W : World} {X : Nat} {vs : List Value} {T : TypeId} (h : Cel W X vs T) (hl : vs.length = 4) (v0 v1 v2 v3 : Value) :
    Cel ((((W.setCell ⟨X, 0, none⟩ v0).setCell ⟨X, 1, none⟩ v1).setCell ⟨X, 2, none⟩ v2).setCell ⟨X, 3, none⟩ v3) X [v0, v1, v2, v3] T ∧ Touch (fun z => z = X) W ((((W.setCell ⟨X, 0, none⟩ v0).setCell ⟨X, 1, none⟩ v1).setCell ⟨X, 2, none⟩ v2).setCell ⟨X, 3, none⟩ v3) := by
  refine ⟨?_, (((((Touch.refl (fun z => z = X) W).setCell rfl _).setCell rfl _).setCell rfl _).setCell rfl _)⟩
  have := (((h.set 0 v0).set 1 v1).set 2 v2).set 3 v3
  match vs, hl with
  | [a, b, c, d], _ => exact this
theorem FOff.empty {W : World} {S : Nat → Prop} {a : Option Addr} : FOff W S a [] := fun W' t i hi => by simp at hi
theorem JV.foff' {w W : World} {a : Option Addr} {n cap : Nat} {xs : List Value} {fs : List Frm} (j : JV w (.slice a n cap) n xs fs W) (hn : fs.length = n) : FOff W (fun k => k < w.heap.size) a fs := by
  obtain ⟨a', cap', e, h⟩ := j.foff hn
  simp only [Value.slice.injEq, true_and] at e
  obtain ⟨rfl, rfl⟩ := e
  exact h

end Go.Proofs.Ytpnldfembbfgdaa
namespace Go.Proofs.Ytpnldfembbfgdaa
open Go.RowKit Go.Deep
set_option linter.unusedVariables false
set_option maxRecDepth 100000

/-- Three forms in memory of their own, their lists anywhere. -/
structure JC (base : Nat) (G cap : Nat) (xs : List Value) (fs : List Frm) (W : World) : Prop where
  o : W.ownsRow base 34 3 (.slice (some ⟨G, 0, none⟩) 3 cap) 3 xs
  t : TermsOk W G xs fs 3
theorem JC.below {base : Nat} {W W' : World} {G cap : Nat} {xs : List Value} {fs : List Frm} (j : JC base G cap xs fs W) (h : Below W.heap.size W W') : JC base G cap xs fs W' := ⟨own_below j.o h, j.t.below h⟩
theorem JC.past {base : Nat} {W W' : World} {X G cap : Nat} {xs : List Value} {fs : List Frm} (j : JC base G cap xs fs W) (hX : X ≠ G) (hx : ∀ o q, W.cell? ⟨X, o, none⟩ ≠ some (.int .i64 q)) (t : Touch (fun z => z = X) W W') : JC base G cap xs fs W' := by
  refine ⟨own_off j.o (fun g hg hs => ?_) t, fun i hi => ?_⟩
  · have h' : some G = some g := hg
    simp only [Option.some.injEq] at h'
    exact hX (by rw [h']; exact hs.symm)
  · obtain ⟨a', c', ca, cc, e0, e1, e2, i1, i2, n1, n2⟩ := j.t i hi
    exact ⟨a', c', ca, cc, e0, e1, e2, i1.past hx t, i2.past hx t, n1, n2⟩
theorem JC.lt {base : Nat} {W : World} {G cap : Nat} {xs : List Value} {fs : List Frm} (j : JC base G cap xs fs W) : base ≤ G ∧ G < W.heap.size := by
  rcases j.o.2 with ⟨h, _⟩ | ⟨g, cap', cur, h, hg, hh, _⟩
  · cases h
  · simp only [Value.slice.injEq, Option.some.injEq, Addr.mk.injEq, and_true, true_and] at h
    obtain ⟨rfl, _⟩ := h
    exact ⟨hg, lt_of_block hh⟩
theorem JC.frz {base : Nat} {W : World} {G cap : Nat} {xs : List Value} {fs : List Frm} (j : JC base G cap xs fs W) (i : Nat) : W.frozen? ⟨G, i, none⟩ = false := by
  rcases j.o.2 with ⟨h, _⟩ | ⟨g, cap', cur, h, hg, hh, _⟩
  · cases h
  · simp only [Value.slice.injEq, Option.some.injEq, Addr.mk.injEq, and_true, true_and] at h
    obtain ⟨rfl, _⟩ := h
    have : Cel W G cur.toList 34 := by unfold Cel; simpa using hh
    exact this.free i
/-- One of them is overwritten. -/
theorem JC.put {base : Nat} {W : World} {G cp : Nat} {xs : List Value} {fs : List Frm} (j : JC base G cp xs fs W) (hn : fs.length = 3) {p : Nat} (hp : p < 3) {B1 B2 ca cc : Nat} {C D : List Int} {K : Int} (k1 : Blk W B1 C) (l1 : C.length = 3) (k2 : Blk W B2 D) (l2 : D.length = 2) (n1 : B1 ≠ G) (n2 : B2 ≠ G) :
    FormsAt (((W.setCell ⟨G, p * 3, none⟩ (.slice (some ⟨B1, 0, none⟩) 3 ca)).setCell ⟨G, p * 3 + 1, none⟩ (.slice (some ⟨B2, 0, none⟩) 2 cc)).setCell ⟨G, p * 3 + 2, none⟩ (.int .i64 K)) (some ⟨G, 0, none⟩) (fs.set p (C, D, K)) := by
  have hT := j.t
  have hx := j.o.1
  rcases j.o.2 with ⟨h, _⟩ | ⟨g, cap', cur, h, hg, hh, hl, _, hcs, ht⟩
  · cases h
  simp only [Value.slice.injEq, Option.some.injEq, Addr.mk.injEq, and_true, true_and] at h
  obtain ⟨rfl, rfl⟩ := h
  have cel : Cel W G cur.toList 34 := by unfold Cel; simpa using hh
  have hlen : 9 ≤ cur.toList.length := by
    have := congrArg List.length ht
    rw [List.length_take, hx] at this
    omega
  have hat : ∀ i, i < 9 → cur.toList[i]? = xs[i]? := fun i hi => by
    rw [← ht, List.getElem?_take, if_pos (by omega)]
  have c3 := ((cel.set (p * 3) (.slice (some ⟨B1, 0, none⟩) 3 ca)).set (p * 3 + 1) (.slice (some ⟨B2, 0, none⟩) 2 cc)).set (p * 3 + 2) (.int .i64 K)
  have tt : Touch (fun x => x = G) W (((W.setCell ⟨G, p * 3, none⟩ (.slice (some ⟨B1, 0, none⟩) 3 ca)).setCell ⟨G, p * 3 + 1, none⟩ (.slice (some ⟨B2, 0, none⟩) 2 cc)).setCell ⟨G, p * 3 + 2, none⟩ (.int .i64 K)) := (((Touch.refl (fun x => x = G) W).setCell rfl _).setCell rfl _).setCell rfl _
  have m1 := (k1.ints' l1).by tt (fun b o e => by simp only [Option.some.injEq, Addr.mk.injEq, and_true] at e; omega)
  have m2 := (k2.ints' l2).by tt (fun b o e => by simp only [Option.some.injEq, Addr.mk.injEq, and_true] at e; omega)
  intro i hi
  rw [List.length_set, hn] at hi
  by_cases e : p = i
  · subst e
    rw [List.getElem?_set_self (by omega)]
    refine ⟨G, 0, rfl, _, _, ca, cc, ?_, ?_, ?_, m1, m2⟩
    · rw [Nat.zero_add, c3.cell, List.getElem?_set_ne (by omega), List.getElem?_set_ne (by omega), List.getElem?_set_self (by omega)]
    · rw [Nat.zero_add, c3.cell, List.getElem?_set_ne (by omega), List.getElem?_set_self (by rw [List.length_set]; omega)]
    · rw [Nat.zero_add, c3.cell, List.getElem?_set_self (by rw [List.length_set, List.length_set]; omega)]; rfl
  · rw [List.getElem?_set_ne e]
    obtain ⟨a', c', x, y, e0, e1, e2, i1, i2, q1, q2⟩ := hT i hi
    refine ⟨G, 0, rfl, a', c', x, y, ?_, ?_, ?_, i1.by tt q1, i2.by tt q2⟩
    · rw [Nat.zero_add, c3.cell, List.getElem?_set_ne (by omega), List.getElem?_set_ne (by omega), List.getElem?_set_ne (by omega), hat _ (by omega)]; exact e0
    · rw [Nat.zero_add, c3.cell, List.getElem?_set_ne (by omega), List.getElem?_set_ne (by omega), List.getElem?_set_ne (by omega), hat _ (by omega)]; exact e1
    · rw [Nat.zero_add, c3.cell, List.getElem?_set_ne (by omega), List.getElem?_set_ne (by omega), List.getElem?_set_ne (by omega), hat _ (by omega)]; exact e2

theorem addr_add (b off j : Nat) : (⟨b, off, none⟩ : Addr).add j = ⟨b, off + j, none⟩ := by
  by_cases h0 : j = 0
  · subst h0; simp [Addr.add]
  · simp [Addr.add, h0]

end Go.Proofs.Ytpnldfembbfgdaa
namespace Go.Proofs.Ytpnldfembbfgdaa
open Go.RowKit Go.Deep
set_option linter.unusedVariables false
set_option maxRecDepth 100000

theorem next_nil {n : Nat} (h : 0 < n) : Builtin.nextslicecap n 0 = n := by
  simp [Builtin.nextslicecap, h]
/-- append(nil, make([]T, n)...). -/
theorem run_append_made {P : Program} (w : World) (t tx ty e : TypeId) (i : TypeInfo) (z : Value) (ht : P.underlying t = some (.slice e)) (htx : P.underlying tx = some (.int .i64)) (hi : P.info? e = some i) (hz : i.zero = some z) (n : Nat) (h0 : 0 < n) (hs : 0 < i.size) (hn : n ≤ 1000) (hb : i.bytes ≤ 1000) :
    (Builtin.append_ #[t, tx] ty #[.slice none 0 0, .int .i64 (n : Int)]).run P w = .ok (.slice (some ⟨w.heap.size, 0, none⟩) n (grownCap w n 0 e)) (w.drew.alloc (.cells (Builtin.zeroCells z.cells n ++ Builtin.zeroCells z.cells (grownCap w n 0 e - n)) e)) := by
  have hw : IntKind.i64.wrap (n : Int) = n := wrap_id (by omega) (by omega)
  have h1 : ¬ ((n : Int) < 0) := by omega
  have hnb : n * i.bytes ≤ 1000 * 1000 := Nat.mul_le_mul hn hb
  have h2 : ¬ (281474976710656 < (n : Int) * (i.bytes : Int)) := by
    have : ((n * i.bytes : Nat) : Int) = (n : Int) * (i.bytes : Int) := by simp
    omega
  have h3 : ¬ (n * i.size = 0) := by
    have := Nat.mul_pos h0 hs
    omega
  have h4 : ¬ (n = 0) := by omega
  have h5 : ¬ (281474976710656 < n * i.bytes) := by omega
  have h6 : ¬ (9223372036854775807 < (n : Int)) := by omega
  have hold : (Builtin.firstCells i.size 0 (.slice none 0 0)).run P w.drew = .ok #[] w.drew := run_firstCells_none w.drew i.size 0 0 0
  simp [Builtin.append_, asInt, asIntOf, run_underlying ht, run_underlying htx, sizeOf, typeInfo, zeroValue, hi, hz, hw, h1, h2, h3, h4, h5, h6, next_nil h0, Question.forced, hold, newRow, grownCap]

theorem wpList_append_made {P : Program} {ops : Array Oper} {rest : List Oper} {o : Oper} {a : Act} {w : World} {Q : Exit → Act → World → Prop} (hgd : o.guard = none) (s x : Operand) (t tx : TypeId) (ho : o.op = .call { callee := .builtin .append, args := #[s, x], argTypes := #[t, tx] }) (v xv r : Value) (w' : World) (hs : a.eval s = v) (hx : a.eval x = xv) (hr : (Builtin.append_ #[t, tx] o.type #[v, xv]).run P w = .ok r w') (h : wpList P ops Q rest (a.put o.dst r) w') : wpList P ops Q (o :: rest) a w := by
  refine wpList_plain hgd fun K hK => ?_
  unfold Oper.wp execOp
  simp only [ho, resolve, invoke, builtin, Sem.run_bind, Sem.run_pure, Result.andThen_ok, List.map_toArray, List.map_cons, List.map_nil, hs, hx, hr]
  exact hK _ _ h
theorem zero_size (z : Array Value) (n : Nat) : (Builtin.zeroCells z n).size = n * z.size := by simp [Builtin.zeroCells]

end Go.Proofs.Ytpnldfembbfgdaa
namespace Go.Proofs.Ytpnldfembbfgdaa
open Go.RowKit Go.Deep
set_option linter.unusedVariables false
set_option maxRecDepth 100000

/-- The cells of forms that can be read. -/
theorem FormsAt.cells {w : World} {b off : Nat} {fs : List Frm} (h : FormsAt w (some ⟨b, off, none⟩) fs) : ∀ k, k ≤ fs.length → ∃ xs : List Value, xs.length = k * 3 ∧ (∀ j u, xs[j]? = some u → w.cell? ⟨b, off + j, none⟩ = some u) ∧ (∀ u ∈ xs, u.oneCell' = true) ∧ (∀ G, w.heap.size ≤ G → TermsOk w G xs fs k) := by
  intro k
  induction k with
  | zero => intro _; exact ⟨[], rfl, fun j u hu => by simp at hu, fun u hu => by simp at hu, fun G _ j hj => by omega⟩
  | succ k ih =>
    intro hk
    obtain ⟨xs, h1, h2, h3, h4⟩ := ih (by omega)
    obtain ⟨b', off', e, a', c', ca, cc, c0, c1, c2, iC, iD⟩ := h k (by omega)
    simp only [Option.some.injEq, Addr.mk.injEq, and_true] at e
    obtain ⟨rfl, rfl⟩ := e
    refine ⟨xs ++ [.slice a' 3 ca, .slice c' 2 cc, .int .i64 (fs[k]?.getD ([], [], 0)).2.2], by rw [List.length_append, h1]; simp; omega, fun j u hu => ?_, fun u hu => ?_, fun G hG j hj => ?_⟩
    · by_cases hj : j < xs.length
      · rw [List.getElem?_append_left hj] at hu; exact h2 j u hu
      · rw [List.getElem?_append_right (by omega), h1] at hu
        obtain ⟨r, rfl⟩ : ∃ r, j = k * 3 + r := ⟨j - k * 3, by omega⟩
        rw [show k * 3 + r - k * 3 = r by omega] at hu
        match r with
        | 0 => simp only [List.getElem?_cons_zero, Option.some.injEq] at hu; subst hu; exact c0
        | 1 => simp only [List.getElem?_cons_zero, List.getElem?_cons_succ, Option.some.injEq] at hu; subst hu; exact c1
        | 2 => simp only [List.getElem?_cons_zero, List.getElem?_cons_succ, Option.some.injEq] at hu; subst hu; exact c2
        | r + 3 => simp at hu
    · rcases List.mem_append.1 hu with hu | hu
      · exact h3 u hu
      · simp only [List.mem_cons, List.not_mem_nil, or_false] at hu
        rcases hu with rfl | rfl | rfl <;> rfl
    · by_cases hjk : j < k
      · obtain ⟨a2, c2', x, y, e0, e1, e2, i1, i2, n1, n2⟩ := h4 G hG j hjk
        exact ⟨a2, c2', x, y, by rw [List.getElem?_append_left (by omega)]; exact e0, by rw [List.getElem?_append_left (by omega)]; exact e1, by rw [List.getElem?_append_left (by omega)]; exact e2, i1, i2, n1, n2⟩
      · obtain rfl : j = k := by omega
        refine ⟨a', c', ca, cc, ?_, ?_, ?_, iC, iD, fun b o e => by have := iC.blt (by omega) b o e; omega, fun b o e => by have := iD.blt (by omega) b o e; omega⟩
        · rw [List.getElem?_append_right (by omega), h1, Nat.sub_self]; rfl
        · rw [List.getElem?_append_right (by omega), h1, show j * 3 + 1 - j * 3 = 1 by omega]; rfl
        · rw [List.getElem?_append_right (by omega), h1, show j * 3 + 2 - j * 3 = 2 by omega]; rfl
theorem TermsOk.move {W W' : World} {G g : Nat} {xs : List Value} {T : List Frm} {n : Nat} (h : TermsOk W G xs T n) (t : Touch (fun x => x = G) W W') (hg : g = G ∨ W.heap.size ≤ g) : TermsOk W' g xs T n := fun j hj => by
  obtain ⟨a', c', ca, cc, e0, e1, e2, i1, i2, n1, n2⟩ := h j hj
  refine ⟨a', c', ca, cc, e0, e1, e2, i1.by t n1, i2.by t n2, fun b o e => ?_, fun b o e => ?_⟩
  · have := n1 b o e
    have := i1.blt (by omega) b o e
    omega
  · have := n2 b o e
    have := i2.blt (by omega) b o e
    omega
theorem TermsOk.join {W : World} {G : Nat} {xs ys : List Value} {T U : List Frm} {n m : Nat} (h : TermsOk W G xs T n) (h' : TermsOk W G ys U m) (hx : xs.length = n * 3) (hT : T.length = n) : TermsOk W G (xs ++ ys) (T ++ U) (n + m) := fun j hj => by
  by_cases hjn : j < n
  · obtain ⟨a', c', ca, cc, e0, e1, e2, r⟩ := h j hjn
    refine ⟨a', c', ca, cc, by rw [List.getElem?_append_left (by omega)]; exact e0, by rw [List.getElem?_append_left (by omega)]; exact e1, ?_, ?_⟩
    · rw [List.getElem?_append_left (by omega), List.getElem?_append_left (l₁ := T) (by omega)]; exact e2
    · rw [List.getElem?_append_left (l₁ := T) (by omega)]; exact r
  · obtain ⟨a', c', ca, cc, e0, e1, e2, r⟩ := h' (j - n) (by omega)
    refine ⟨a', c', ca, cc, ?_, ?_, ?_, ?_⟩
    · rw [List.getElem?_append_right (by omega), hx, show j * 3 - n * 3 = (j - n) * 3 by omega]; exact e0
    · rw [List.getElem?_append_right (by omega), hx, show j * 3 + 1 - n * 3 = (j - n) * 3 + 1 by omega]; exact e1
    · rw [List.getElem?_append_right (by omega), hx, show j * 3 + 2 - n * 3 = (j - n) * 3 + 2 by omega, List.getElem?_append_right (l₁ := T) (by omega), hT]; exact e2
    · rw [List.getElem?_append_right (l₁ := T) (by omega), hT]; exact r
theorem grown_touch {W W' : World} {G : Nat} (h : W.grownBy W' (some G)) : Touch (fun x => x = G) W W' := ⟨h.os, h.tape, h.output, h.size, fun z hz hn => h.block z hz (fun e => hn (by simpa using e))⟩

theorem own_lo {W : World} {base g cap n : Nat} {xs : List Value} (h : W.ownsRow base 34 3 (.slice (some ⟨g, 0, none⟩) n cap) n xs) : base ≤ g ∧ g < W.heap.size ∧ n ≤ cap := by
  rcases h.2 with ⟨h', _⟩ | ⟨g', cap', cur, h', hb, hh, hc, _⟩
  · cases h'
  · simp only [Value.slice.injEq, Option.some.injEq, Addr.mk.injEq, and_true, true_and] at h'
    obtain ⟨rfl, rfl⟩ := h'
    exact ⟨hb, lt_of_block hh, hc⟩

end Go.Proofs.Ytpnldfembbfgdaa
namespace Go.Proofs.Ytpnldfembbfgdaa
open Go.RowKit Go.Deep
set_option linter.unusedVariables false
set_option maxRecDepth 100000

/-- A block that holds no number holds no form. -/
theorem FormsAt.past2 {W W' : World} {X : Nat} {a : Option Addr} {fs : List Frm} (h : FormsAt W a fs) (hx : ∀ o q, W.cell? ⟨X, o, none⟩ ≠ some (.int .i64 q)) (t : Touch (fun z => z = X) W W') : FormsAt W' a fs := fun i hi => by
  obtain ⟨b, off, e, a', c', ca, cc, c0, c1, c2, iC, iD⟩ := h i hi
  have hne : b ≠ X := fun e2 => by subst e2; exact hx _ _ c2
  have hb := block_lt c0
  refine ⟨b, off, e, a', c', ca, cc, ?_, ?_, ?_, iC.past hx t, iD.past hx t⟩
  · simp only [World.cell?] at c0 ⊢; rw [t.block b hb hne]; exact c0
  · simp only [World.cell?] at c1 ⊢; rw [t.block b hb hne]; exact c1
  · simp only [World.cell?] at c2 ⊢; rw [t.block b hb hne]; exact c2

end Go.Proofs.Ytpnldfembbfgdaa
namespace Go.Proofs.Ytpnldfembbfgdaa
open Go.RowKit Go.Deep
set_option linter.unusedVariables false
set_option maxRecDepth 100000

/-- A block of just three bools. -/
def OwnBB (W : World) (G : Nat) (f : Nat → Bool) : Prop := Cel W G [.bool (f 0), .bool (f 1), .bool (f 2)] 4
theorem OwnBB.at {W : World} {G : Nat} {f : Nat → Bool} (h : OwnBB W G f) {v : Nat} (hv : v < 3) : W.cell? ⟨G, v, none⟩ = some (.bool (f v)) ∧ W.frozen? ⟨G, v, none⟩ = false := by
  refine ⟨(Cel.cell h v).trans ?_, Cel.free h v⟩
  match v, hv with
  | 0, _ => rfl
  | 1, _ => rfl
  | 2, _ => rfl
theorem OwnBB.no {W : World} {G : Nat} {f : Nat → Bool} (h : OwnBB W G f) : ∀ o q, W.cell? ⟨G, o, none⟩ ≠ some (.int .i64 q) := fun o q e => by
  have := Cel.cell h o
  rw [e] at this
  match o with
  | 0 => simp at this
  | 1 => simp at this
  | 2 => simp at this
  | o + 3 => simp at this
theorem OwnBB.set {W : World} {G : Nat} {f : Nat → Bool} (h : OwnBB W G f) {u : Nat} (hu : u < 3) (x : Bool) : OwnBB (W.setCell ⟨G, u, none⟩ (.bool x)) G (fun v => if v = u then x else f v) := by
  have := Cel.set h u (.bool x)
  unfold OwnBB
  match u, hu with
  | 0, _ => simpa using this
  | 1, _ => simpa using this
  | 2, _ => simpa using this
theorem OwnBB.ext {W : World} {G : Nat} {f g : Nat → Bool} (h : OwnBB W G f) (e : ∀ v, v < 3 → f v = g v) : OwnBB W G g := by
  unfold OwnBB at *
  rw [← e 0 (by omega), ← e 1 (by omega), ← e 2 (by omega)]; exact h
theorem OwnBB.below {W W' : World} {G : Nat} {f : Nat → Bool} (h : OwnBB W G f) (b : Below W.heap.size W W') : OwnBB W' G f := Cel.below h b

end Go.Proofs.Ytpnldfembbfgdaa
namespace Go.Proofs.Ytpnldfembbfgdaa
open Go.RowKit
set_option linter.unusedVariables false

section
variable {F : Fence} {n : Nat} {P : Program} {ops : Array Oper} {Q : Exit → Act → World → Prop} {md : Region.Mode} {S : World → Prop}

/-- What an operation leaves of an activation: its own slot alone, and calls put off. -/
def Left (o : Oper) (a a' : Act) : Prop := ∃ u ds, a' = ({ a with defers := ds } : Act).put o.dst u
theorem wpIn_left {o : Oper} {a : Act} {w : World} {K : Act → World → Prop} (h : o.wpIn F n P a w K Q) : o.wpIn F n P a w (fun a' w' => Left o a a' ∧ K a' w') Q := by
  unfold Oper.wpIn at *
  refine ⟨h.1, ?_⟩
  have h := h.2
  generalize (o.semAt F.round a.eval).run P w = r at *
  cases r with
  | ok x w' =>
    cases x <;> simp only [Oper.uponIn] at h ⊢ <;>
      first
        | exact ⟨⟨_, _, rfl⟩, h⟩
        | exact ⟨h.1, CallsIn.mono h.2 (fun e w'' he => by cases e <;> first | exact ⟨⟨_, _, rfl⟩, he⟩ | exact he)⟩
        | exact ⟨h.1, RowsIn.mono h.2 (fun _ _ he => ⟨⟨_, _, rfl⟩, he⟩)⟩
        | exact ⟨h.1, RoundIn.mono h.2 (fun e w'' he => by cases e <;> first | exact ⟨⟨_, _, rfl⟩, he⟩ | exact he)⟩
        | exact h
  | halt x w' => cases x <;> simp only [Oper.uponIn] at h ⊢ <;> exact h
theorem wpOpIn_left {j : Nat} {oj : Oper} (hj : ops[j]? = some oj) {a : Act} {w : World} {K : Act → World → Prop} (h : wpOpIn F n P ops Q j K a w) : wpOpIn F n P ops Q j (fun a' w' => Left oj a a' ∧ K a' w') a w := by
  unfold wpOpIn at *
  simp only [hj] at *
  split
  · rename_i hw
    simp only [hw, if_true] at h
    exact wpIn_left h
  · rename_i hw
    simp only [hw] at h
    exact ⟨h.1, ⟨undef, a.defers, rfl⟩, h.2⟩

/-- Yields where S holds, and makes no call. -/
def YieldsS (P : Program) (ops : Array Oper) (S : World → Prop) (o : Oper) (v : Value) (a : Act) : Prop := YieldsIf P ops S o v a ∧ ∀ w, o.about P w a.eval = none
theorem YieldsS.left {oi oj : Oper} {v : Value} {a a' : Act} (hy : YieldsS P ops S oi v a) (hap : oi.apart ops oj = true) (hsi : ∀ cs b, oi.op ≠ .select cs b) (h : Left oj a a') : YieldsS P ops S oi v a' := by
  obtain ⟨u, ds, rfl⟩ := h
  obtain ⟨h1, h2, h3⟩ := Oper.apart_spec hap
  refine ⟨YieldsIf.of_same (a := ({ a with defers := ds } : Act)) (YieldsIf.of_same hy.1 rfl rfl) (execOp_put oi hsi _ oj.dst u h3) (wanted_put oi _ oj.dst u h3), fun w => ?_⟩
  rw [about_put oi w _ oj.dst u h3]
  exact hy.2 w
theorem YieldsS.wpOpIn {i : Nat} {o : Oper} {v : Value} {a : Act} (hro : F.round = none) (hi : ops[i]? = some o) (hy : YieldsS P ops S o v a) {K : Act → World → Prop} {w : World} (hS : S w) (h : K (a.put o.dst v) w) : wpOpIn F n P ops Q i K a w := by
  unfold Go.wpOpIn
  simp only [hi]
  have hab : ∀ f, o.about P w a.eval = some f → F.fn f := fun f hf => by rw [hy.2 w] at hf; cases hf
  rcases hy.1 with ⟨hw, hv⟩ | ⟨hw, rfl⟩
  · simp only [hw, if_true, Oper.wpIn, hro, Oper.semAt_none, hv w hS, Oper.uponIn]; exact ⟨hab, h⟩
  · simp only [hw, Bool.false_eq_true, if_false]; exact ⟨hab, h⟩
/-- The same slot, filled by a constant. -/
def still (oi : Oper) (v : Value) : Oper := { oi with op := .move (.const v), guard := none, after := #[] }
theorem still_yields (oi : Oper) (v : Value) (a : Act) : YieldsFenced P ops (still oi v) v a := by
  refine ⟨.inl ⟨rfl, fun w => ?_⟩, fun w => rfl⟩
  simp [still, execOp, Act.eval]

theorem still_apart {oi oj : Oper} {v : Value} (h : oi.apart ops oj = true) : (still oi v).apart ops oj = true := by
  simp only [Oper.apart, Bool.and_eq_true] at h ⊢
  refine ⟨h.1, ?_⟩
  cases oj.dst with
  | none => rfl
  | some d => simp [still, Oper.looksAt, Op.operands]
theorem wpOpIn_putS {j : Nat} {oi oj : Oper} {v : Value} (hro : F.round = none) (hj : ops[j]? = some oj) (hap : oi.apart ops oj = true)
    (hsi : ∀ cs b, oi.op ≠ .select cs b) (hsj : ∀ cs b, oj.op ≠ .select cs b)
    (hQ : ∀ c a w, Q (.panic c) (a.put oi.dst v) w → Q (.panic c) a w) {K : Act → World → Prop} {a : Act} {w : World}
    (hy : YieldsS P ops S oi v a) (h : wpOpIn F n P ops Q j K (a.put oi.dst v) w) :
    wpOpIn F n P ops Q j (fun a' w' => YieldsS P ops S oi v a' ∧ K (a'.put oi.dst v) w') a w :=
  wpOpIn_mono (fun a' w' hh => ⟨hy.left hap hsi hh.1, hh.2.2⟩) (wpOpIn_left hj (wpOpIn_put (oi := still oi v) hro hj (still_apart hap) (fun cs b e => by cases e) hsj hQ (still_yields oi v a) h))

/-- Whatever order is picked from here on; S holds behind every operation. -/
def wpAnyS (F : Fence) (n : Nat) (P : Program) (md : Region.Mode) (ops : Array Oper) (Q : Exit → Act → World → Prop) (S : World → Prop) : Nat → Array Bool → Act → World → Prop
  | 0, listed, a, w => Region.ready md ops listed = [] ∧ Q .normal a w
  | fuel + 1, listed, a, w =>
    (Region.ready md ops listed = [] → Q .normal a w) ∧
    ∀ i ∈ Region.ready md ops listed, wpOpIn F n P ops Q i (fun a' w' => S w' ∧ wpAnyS F n P md ops Q S fuel (listed.setIfInBounds i true) a' w') a w
theorem wpAnyIn_of_S : ∀ (fuel : Nat) (listed : Array Bool) (a : Act) (w : World), wpAnyS F n P md ops Q S fuel listed a w → wpAnyIn F n P md ops Q fuel listed a w
  | 0, _, _, _, h => h
  | fuel + 1, _, _, _, h => ⟨h.1, fun i hi => wpOpIn_mono (fun a' w' h' => wpAnyIn_of_S fuel _ a' w' h'.2) (h.2 i hi)⟩
theorem wpAnyS_first {i : Nat} {oi : Oper} {v : Value} (hro : F.round = none) (hi : ops[i]? = some oi) (hsel : ∀ (j : Nat) (o : Oper) cs b, ops[j]? = some o → o.op ≠ .select cs b)
    (hQ : ∀ c a w, Q (.panic c) (a.put oi.dst v) w → Q (.panic c) a w) :
    ∀ (fuel : Nat) (listed : Array Bool) (a : Act) (w : World),
      (∀ j oj, ops[j]? = some oj → j ≠ i → listed.getD j true = false → (∀ e ∈ oj.after, Region.binds md e = true → e.on ≠ i) → oi.apart ops oj = true) →
      i ∈ Region.ready md ops listed → YieldsS P ops S oi v a → S w →
      wpAnyS F n P md ops Q S fuel (listed.setIfInBounds i true) (a.put oi.dst v) w → wpAnyS F n P md ops Q S (fuel + 1) listed a w := by
  intro fuel
  induction fuel with
  | zero =>
    intro listed a w _ hr hy hS H
    refine ⟨fun h => (by rw [h] at hr; cases hr), fun j hj => ?_⟩
    by_cases hji : j = i
    · subst hji; exact hy.wpOpIn hro hi hS ⟨hS, H⟩
    · have := ready_mono hj hji
      rw [H.1] at this
      cases this
  | succ fuel ih =>
    intro listed a w hfree hr hy hS H
    refine ⟨fun h => (by rw [h] at hr; cases hr), fun j hj => ?_⟩
    by_cases hji : j = i
    · subst hji; exact hy.wpOpIn hro hi hS ⟨hS, H⟩
    · have h1 := H.2 j (ready_mono hj hji)
      obtain ⟨hjun, oj, hoj, hall⟩ := mem_ready.1 hj
      have h2 := wpOpIn_putS hro hoj (hfree j oj hoj hji hjun (not_waits (i := i) (j := j) hr hall)) (fun cs b => hsel i oi cs b hi) (fun cs b => hsel j oj cs b hoj) hQ hy h1
      have hfree' : ∀ k ok, ops[k]? = some ok → k ≠ i → (listed.setIfInBounds j true).getD k true = false →
          (∀ e ∈ ok.after, Region.binds md e = true → e.on ≠ i) → oi.apart ops ok = true := fun k ok hk hki hun hno => by
        refine hfree k ok hk hki ?_ hno
        by_cases hjk : j = k
        · subst hjk; exact hjun
        · rw [getD_set_ne true hjk] at hun; exact hun
      refine wpOpIn_mono (fun a' w' h3 => ⟨h3.2.1, ih (listed.setIfInBounds j true) a' w' hfree' (ready_mono hr (Ne.symm hji)) h3.1 h3.2.1 ?_⟩) h2
      rw [Array.setIfInBounds_comm _ _ hji]
      exact h3.2.2
theorem wpAnyS_take {i : Nat} {oi : Oper} {v : Value} {fuel : Nat} {listed : Array Bool} {a : Act} {w : World} (hro : F.round = none) (hi : ops[i]? = some oi)
    (hs : Region.noSelect ops = true) (hf : Region.free md ops listed i = true) (hr : (Region.ready md ops listed).contains i = true)
    (hQ : ∀ c a w, Q (.panic c) (a.put oi.dst v) w → Q (.panic c) a w) (hy : YieldsIf P ops S oi v a) (hab : ∀ w, oi.about P w a.eval = none) (hS : S w)
    (h : wpAnyS F n P md ops Q S fuel (listed.setIfInBounds i true) (a.put oi.dst v) w) : wpAnyS F n P md ops Q S (fuel + 1) listed a w :=
  wpAnyS_first hro hi (Region.noSelect_spec hs) hQ fuel listed a w (Region.free_spec hi hf) (by simpa using hr) ⟨hy, hab⟩ hS h
/-- One operation alone may come up. -/
theorem wpAnyS_one {i : Nat} {o : Oper} {fuel : Nat} {listed : Array Bool} {a : Act} {w : World} (hr : Region.ready md ops listed = [i]) (ho : ops[i]? = some o)
    (h : ∀ K' : Act → World → Prop, Shut (∀ a w, S w → wpAnyS F n P md ops Q S fuel (listed.setIfInBounds i true) a w → K' a w) → if Region.wanted o (yielded ops a.tmps) = true then Oper.wpIn F n P o a w K' Q else (∀ f, o.about P w a.eval = some f → F.fn f) ∧ K' (a.put o.dst undef) w) : wpAnyS F n P md ops Q S (fuel + 1) listed a w := by
  refine ⟨fun h0 => (by rw [hr] at h0; cases h0), fun j hj => ?_⟩
  rw [hr] at hj
  rcases List.mem_cons.1 hj with rfl | hj
  · exact wpOpIn_step ho (fun K' hK => h K' (fun a w hS hW => hK a w ⟨hS, hW⟩))
  · cases hj
theorem wpAnyS_done {listed : Array Bool} {a : Act} {w : World} (hr : Region.ready md ops listed = []) (h : Q .normal a w) : ∀ fuel, wpAnyS F n P md ops Q S fuel listed a w
  | 0 => ⟨hr, h⟩
  | _ + 1 => ⟨fun _ => h, by rw [hr]; simp⟩
theorem wpIn_region_S {id : Nat} {a : Act} {w : World} (S : World → Prop) (hm : P.follows .mixedOrders = true)
    (h : wpAnyS F n P .any ops Q S ops.size (Array.replicate ops.size false) a w.drew) : (Code.region id ops true).wpIn F n P Q a w :=
  wpIn_region_any hm (wpAnyIn_of_S _ _ _ _ h)

end
end Go.Proofs.Ytpnldfembbfgdaa
namespace Go.Proofs.Ytpnldfembbfgdaa
open Go.RowKit
set_option linter.unusedVariables false

section
variable {P : Program} {n : Nat} {α : Type}

/-- How a round is left: it goes on. -/
def roundOn (B : Nat) (Kp : World → World → Prop) (I : List α → World → Prop) (xs : List α) (W : World) : Exit → Act → World → Prop
  | .normal, _, W' => KeepsFrom B W W' ∧ Kp W W' ∧ I xs W'
  | _, _, _ => False

theorem wpIn_rows {g : Operand} {ps : Array Tmp} {assign body : Code} {Q : Exit → Act → World → Prop} {a : Act} {w : World} {gf : Nat} {lb : Array Value}
    (hg : a.eval g = .func (.func gf) #[] lb) (eg : ∀ args w, (callFunc gf args).run P w = .ok (.enter gf args) w)
    {encs : α → Array Value} (hps : ∀ x, (encs x).size = ps.size) (A : List α → α → World → Prop) (Kp : World → World → Prop) (Sx : List α → Prop) (I : List α → World → Prop)
    (hI : ∀ pre X Y, I pre X → Below X.heap.size X Y → I pre Y) (hIb : ∀ pre X l r r', I pre X → X.heap[l]? = some (.loop r) → w.heap.size < l → I pre (X.putObj l (.loop r')))
    (hKb : ∀ X l r r', X.heap[l]? = some (.loop r) → Kp X (X.putObj l (.loop r'))) (hKt : ∀ X Y Z, Kp X Y → Kp Y Z → Kp X Z) (h0 : I [] w)
    (hseq : ∀ (l : Nat) (J : List α → World → Prop) (W : World), (∀ pre X Y, J pre X → Below X.heap.size X Y → J pre Y) → Below w.heap.size w W → J [] W →
      (∀ m pre x X, J pre X → A pre x X → YieldAt Fence.wide m P l (encs x) X fun e Y => e = .returned (.bool true) ∧ J (pre ++ [x]) Y ∧ Kp X Y) →
      CallsIn Fence.wide (n - 1) P gf (#[.func (.yield l) #[] #[]] ++ lb) W fun e Y => (∃ v, e = .returned v) ∧ ∃ xs, Sx xs ∧ J xs Y)
    (hround : ∀ (m l : Nat) (pre : List α) (x : α) (X : World) (r : Loop), I pre X → A pre x X → X.heap[l]? = some (.loop r) → w.heap.size < l →
      assign.wpIn (Fence.wide.inRound l) m P (Exit.then (fun a' Y => KeepsFrom w.heap.size X Y ∧ Kp X Y ∧ body.wpIn (Fence.wide.inRound l) m P (roundOn w.heap.size Kp I (pre ++ [x]) (Y.putObj l (.loop { r with state := .busy }))) a' (Y.putObj l (.loop { r with state := .busy }))) (fun _ _ _ => False))
        { tmps := (ps.zip (encs x)).foldl (fun t (p, v) => t.setIfInBounds p v) a.tmps, defers := [] } X)
    (hdone : ∀ (D : Nat) (xs : List α) (W : World), w.heap.size ≤ D → Sx xs → I xs W → W.heap[D]? = some (.deferred (some [])) → Q .normal { a with defers := { target := .collected D, args := #[] } :: a.defers } W) :
    (Code.rangeFunc g ps assign body).wpIn Fence.wide n P Q a w := by
  refine wpIn_rangeFunc ?_
  intro fn _
  obtain ⟨r0, hr0⟩ : ∃ r0 : Loop, r0 = { state := .ready, pending := none, fn, tmps := a.tmps, params := ps, assign, body, defers := w.heap.size } := ⟨_, rfl⟩
  obtain ⟨W1, hW1⟩ : ∃ W1, W1 = (w.alloc (.deferred (some []))).alloc (.loop r0) := ⟨_, rfl⟩
  have b1 : Below w.heap.size w W1 := by rw [hW1]; exact ((Below.refl _ w).alloc (Nat.le_refl _) _).alloc (by simp) _
  have hL : W1.heap[w.heap.size + 1]? = some (.loop r0) := by
    rw [hW1]; have := World.alloc_heap_new (w.alloc (.deferred (some []))) (.loop r0); rwa [World.size_alloc] at this
  have hD : W1.heap[w.heap.size]? = some (.deferred (some [])) := by
    rw [hW1]; exact (Below.heap_alloc _ _ _ (by simp)).trans (World.alloc_heap_new w _)
  refine ⟨w.heap.size + 1, [{ target := .collected w.heap.size, args := #[] }], W1, { target := .fn (.func gf) lb, args := #[.func (.yield (w.heap.size + 1)) #[] #[]] }, W1, gf, #[.func (.yield (w.heap.size + 1)) #[] #[]] ++ lb, W1, ?_, ?_, ?_, ?_, ?_, ?_⟩
  · rw [hW1, hr0]; exact run_enterLoop_outer _ _ _ _ _
  · simp only [resolve, hg]
    simp [go_sem]
  · intro f' _; trivial
  · simp [invoke, go_sem, eg]
  · intro h; simp [Fence.wide] at h
  · refine (hseq (w.heap.size + 1) (fun pre W => I pre W ∧ W.heap[w.heap.size + 1]? = some (.loop r0) ∧ W.heap[w.heap.size]? = some (.deferred (some []))) W1 ?_ b1 ⟨hI _ _ _ h0 b1, hL, hD⟩ ?_).mono ?_
    · rintro pre X Y ⟨i1, i2, i3⟩ hb
      exact ⟨hI _ _ _ i1 hb, (hb.block _ (Array.getElem?_eq_some_iff.1 i2).1).trans i2, (hb.block _ (Array.getElem?_eq_some_iff.1 i3).1).trans i3⟩
    · rintro m pre x X ⟨i1, i2, i3⟩ hA
      have hy := run_yield (P := P) (args := encs x) i2 (by rw [hr0]; exact hps x)
      rw [hr0] at hy
      refine ⟨fn, _, assign, body, hy, roundIn_of_wpIn trivial (wpIn_mono (hround m _ pre x X r0 i1 hA i2 (by omega)) ?_)⟩
      rintro e a' Y hp
      cases e with
      | normal =>
        obtain ⟨k1, k2, hb⟩ := hp
        have j2 := k1.same _ _ (by omega) i2 rfl
        have j3 := k1.same _ _ (Nat.le_refl _) i3 rfl
        refine ⟨_, run_beginRound j2 (by rw [hr0]), wpIn_mono hb ?_⟩
        rintro e a'' Z hq
        cases e with
        | normal =>
          obtain ⟨q1, q2, q3⟩ := hq
          have hl : w.heap.size + 1 < Y.heap.size := (Array.getElem?_eq_some_iff.1 j2).1
          have m2 := q1.same _ _ (by omega) (World.putObj_heap_same (o := .loop { r0 with state := .busy }) hl) rfl
          have m3 := q1.same _ _ (Nat.le_refl _) ((World.putObj_heap_other (by omega)).trans j3) rfl
          have hz : w.heap.size + 1 < Z.heap.size := (Array.getElem?_eq_some_iff.1 m2).1
          refine ⟨_, _, run_endRound none m2, rfl, ⟨hIb _ _ _ _ _ q3 m2 (by omega), ?_, (World.putObj_heap_other (by omega)).trans m3⟩, hKt _ _ _ (hKt _ _ _ (hKt _ _ _ k2 (hKb _ _ _ _ j2)) q2) (hKb _ _ _ _ m2)⟩
          rw [World.putObj_heap_same hz, hr0]
          rfl
        | ret => exact hq.elim
        | exit id => exact hq.elim
        | goto t => exact hq.elim
        | panic c => exact hq.elim
        | outgrown => exact hq.elim
      | ret => exact hp.elim
      | exit id => exact hp.elim
      | goto t => exact hp.elim
      | panic c => exact hp.elim
      | outgrown => exact hp.elim
    · rintro e W2 ⟨⟨v, rfl⟩, xs, hS, i1, i2, i3⟩
      exact ⟨none, _, by have := run_endLoop (P := P) i2 (by rw [hr0]; simp); rw [hr0] at this; rw [hr0] at i2; exact this, hdone _ xs _ (Nat.le_refl _) hS (hIb _ _ _ _ _ i1 i2 (by omega)) ((World.putObj_heap_other (by omega)).trans i3)⟩

end
end Go.Proofs.Ytpnldfembbfgdaa
namespace Go.Proofs.Ytpnldfembbfgdaa
open Go.RowKit Go.Deep
set_option linter.unusedVariables false
set_option maxRecDepth 100000

/-- A block that a round may touch: no cells, or bools or rows, and no numbers. -/
def Loose (o : Option Obj) : Prop := ∀ cs t fr, o = some (.cells cs t fr) → (t = 4 ∨ t = 25) ∧ ∀ (i : Nat) q, cs[i]? ≠ some (.int .i64 q)
/-- What a round leaves. -/
def KpR (X Y : World) : Prop := Touch (fun k => Loose X.heap[k]?) X Y
theorem KpR.refl (X : World) : KpR X X := Touch.refl _ _
theorem KpR.of {X Y : World} (h : Below X.heap.size X Y) : KpR X Y := Touch.of h
theorem KpR.trans {X Y Z : World} (h : KpR X Y) (k : KpR Y Z) : KpR X Z :=
  ⟨k.os.trans h.os, k.tape.trans h.tape, k.output.trans h.output, Nat.le_trans h.size k.size, fun i hi hn => by
    have e := h.block i hi hn
    rw [k.block i (Nat.lt_of_lt_of_le hi h.size) (fun hl => hn (by rw [e] at hl; exact hl))]
    exact e⟩
theorem KpR.loop (X : World) (l : Nat) (r r' : Loop) (h : X.heap[l]? = some (.loop r)) : KpR X (X.putObj l (.loop r')) := by
  refine ⟨rfl, rfl, rfl, by simp [World.putObj], fun k hk hn => ?_⟩
  by_cases e : k = l
  · subst e
    exact absurd (fun cs t fr hh => by rw [h] at hh; cases hh) hn
  · exact World.putObj_heap_other e
theorem not_loose {X : World} {b o : Nat} {q : Int} (h : X.cell? ⟨b, o, none⟩ = some (.int .i64 q)) : ¬ Loose X.heap[b]? := fun hl => by
  simp only [World.cell?] at h
  split at h
  · rename_i c t fr hh
    have := (hl _ _ _ hh).2 o q
    simp at h
    exact this (by simpa using h)
  · cases h
theorem Ints.keepR {X Y : World} {a : Option Addr} {n : Nat} {zs : List Int} (h : Ints X a n zs) (k : KpR X Y) : Ints Y a n zs := by
  refine ⟨h.1, fun i hi => ?_⟩
  obtain ⟨b, off, e, hc⟩ := h.2 i hi
  refine ⟨b, off, e, ?_⟩
  rw [World.cell?_of_block (k.block b (block_lt hc) (not_loose hc))]; exact hc
theorem FormsAt.keepR {X Y : World} {a : Option Addr} {fs : List Frm} (h : FormsAt X a fs) (k : KpR X Y) : FormsAt Y a fs := fun i hi => by
  obtain ⟨b, off, e, a', c', ca, cc, c0, c1, c2, iC, iD⟩ := h i hi
  have hb := k.block b (block_lt c0) (not_loose c2)
  exact ⟨b, off, e, a', c', ca, cc, by rw [World.cell?_of_block hb]; exact c0, by rw [World.cell?_of_block hb]; exact c1, by rw [World.cell?_of_block hb]; exact c2, iC.keepR k, iD.keepR k⟩
theorem Cel.keepR {X Y : World} {B : Nat} {vs : List Value} {t : TypeId} (h : Cel X B vs t) (k : KpR X Y) (h1 : t ≠ 4) (h2 : t ≠ 25) : Cel Y B vs t := by
  have hl := h.lt
  unfold Cel at *
  rw [k.block B hl (fun hl => by rcases (hl _ _ _ h).1 with e | e <;> contradiction)]; exact h

end Go.Proofs.Ytpnldfembbfgdaa
namespace Go.Proofs.Ytpnldfembbfgdaa
open Go.RowKit Go.Deep Go.Shelf
set_option linter.unusedVariables false
set_option maxRecDepth 100000
attribute [local go_sem] Oper.semAt_some

abbrev walkV (l : Nat) (sa : Option Addr) (N sc : Nat) : Value := .agg #[.slice sa N sc, .func (.yield l) #[] #[]]
/-- What a round answers, handed a row that lies in memory made since n₀. -/
def Rounds (l n₀ : Nat) (J : List RowM → World → Prop) (M : Nat) : Prop := ∀ (m : Nat) (pre : List RowM) (v : Value) (r : RowM) (X : World), J pre X → RowFit r → RowX X n₀ v r → pre.length < M → YieldAt Fence.wide m Try.prog l #[v] X fun e Y => e = .returned (.bool true) ∧ J (pre ++ [r]) Y ∧ KpR X Y

end Go.Proofs.Ytpnldfembbfgdaa
namespace Go.Proofs.Ytpnldfembbfgdaa
open Go.RowKit Go.Deep Go.Shelf
set_option linter.unusedVariables false
set_option maxRecDepth 100000
attribute [local go_sem] Oper.semAt_some

end Go.Proofs.Ytpnldfembbfgdaa
namespace Go.Proofs.Ytpnldfembbfgdaa
open Go.RowKit Go.Deep Go.Shelf
set_option linter.unusedVariables false
set_option maxRecDepth 100000
attribute [local go_sem] Oper.semAt_some

end Go.Proofs.Ytpnldfembbfgdaa
namespace Go.Proofs.Ytpnldfembbfgdaa
open Go.RowKit Go.Deep Go.Shelf
set_option linter.unusedVariables false
set_option maxRecDepth 100000
attribute [local go_sem] Oper.semAt_some

end Go.Proofs.Ytpnldfembbfgdaa
namespace Go.Proofs.Ytpnldfembbfgdaa
open Go.RowKit Go.Deep Go.Shelf
set_option linter.unusedVariables false
set_option maxRecDepth 100000

def LinesIn (W : World) (ls : List LV) : Prop := ∀ j, j < ls.length → (ls[j]?.getD noLV).f.At W
theorem FV.At.keepR {g : FV} {X Y : World} (h : g.At X) (k : KpR X Y) : g.At Y := ⟨h.C.keepR k, h.D.keepR k, h.hn, h.hm⟩

end Go.Proofs.Ytpnldfembbfgdaa
namespace Go.Proofs.Ytpnldfembbfgdaa
open Go.RowKit Go.Deep Go.Shelf
set_option linter.unusedVariables false
set_option maxRecDepth 100000
attribute [local go_sem] Oper.semAt_some

theorem LinesG.lin {W : World} {ad : Option Addr} {ls : List LV} (h : LinesG W ad ls) : LinesIn W ls := fun j hj => by
  obtain ⟨b, off, _, _, ha⟩ := h j hj
  exact ha

theorem rs_func {P : Program} {w : World} {a : Addr} {m : Mode} (fn : Fn) (first captured : Array Value) : (store a (.func fn first captured) m).run P w = stored P w a (.func fn first captured) m := run_store P w a _ m rfl
attribute [local go_sem] rs_func

end Go.Proofs.Ytpnldfembbfgdaa
namespace Go.Proofs.Ytpnldfembbfgdaa
open Go.RowKit Go.Deep Go.Shelf
set_option linter.unusedVariables false
set_option maxRecDepth 100000
attribute [local go_sem] Oper.semAt_some

theorem Cel.loop {X : World} {B l : Nat} {vs : List Value} {t : TypeId} {r r' : Loop} (h : Cel X B vs t) (hl : X.heap[l]? = some (.loop r)) : Cel (X.putObj l (.loop r')) B vs t := by
  have hne : B ≠ l := fun e => by
    subst e
    unfold Cel at h
    rw [hl] at h
    cases h
  unfold Cel at *
  rw [World.putObj_heap_other hne]; exact h
theorem below_loop {w X : World} {n l : Nat} {r' : Loop} (h : Below n w X) (hl : n ≤ l) : Below n w (X.putObj l (.loop r')) :=
  ⟨h.os, h.tape, h.output, by simpa [World.putObj] using h.size, fun k hk => (World.putObj_heap_other (by omega)).trans (h.block k hk)⟩

theorem Cel.defer {X : World} {B l : Nat} {vs : List Value} {t : TypeId} {r : Option (List Deferred)} {o : Obj} (h : Cel X B vs t) (hl : X.heap[l]? = some (.deferred r)) : Cel (X.putObj l o) B vs t := by
  have hne : B ≠ l := fun e => by
    subst e
    unfold Cel at h
    rw [hl] at h
    cases h
  unfold Cel at *
  rw [World.putObj_heap_other hne]; exact h
theorem below_put {w X : World} {n l : Nat} {o : Obj} (h : Below n w X) (hl : n ≤ l) : Below n w (X.putObj l o) :=
  ⟨h.os, h.tape, h.output, by simpa [World.putObj] using h.size, fun k hk => (World.putObj_heap_other (by omega)).trans (h.block k hk)⟩
theorem cel_past {S : Nat → Prop} {X Y : World} {B : Nat} {vs : List Value} {t : TypeId} (h : Cel X B vs t) (k : Touch S X Y) (hn : ¬ S B) : Cel Y B vs t := by
  have hl := h.lt
  unfold Cel at *
  rw [k.block B hl hn]; exact h
theorem below_touch {w X Y : World} {G : Nat} (h : Below w.heap.size w X) (t : Touch (fun k => k = G) X Y) (hG : w.heap.size ≤ G) : Below w.heap.size w Y :=
  ⟨t.os.trans h.os, t.tape.trans h.tape, t.output.trans h.output, Nat.le_trans h.size t.size, fun k hk => (t.block k (Nat.lt_of_lt_of_le hk h.size) (by omega)).trans (h.block k hk)⟩
theorem OwnBB.loose {X : World} {G : Nat} {f : Nat → Bool} (h : OwnBB X G f) : Loose X.heap[G]? := fun cs t fr e => by
  unfold OwnBB Cel at h
  rw [h] at e
  cases e
  refine ⟨Or.inl rfl, fun i q => ?_⟩
  match i with
  | 0 => simp
  | 1 => simp
  | 2 => simp
  | i + 3 => simp
theorem OwnBB.kpR {X Y : World} {G : Nat} {f : Nat → Bool} (h : OwnBB X G f) (t : Touch (fun k => k = G) X Y) : KpR X Y := t.mono (fun k e => by subst e; exact h.loose)
theorem keeps_below {B : Nat} {X Y : World} (h : Below X.heap.size X Y) : KeepsFrom B X Y := ⟨h.size, fun k o _ hk _ => (h.block k (lt_of_block hk)).trans hk⟩
theorem keeps_touch {B G : Nat} {X Y : World} (t : Touch (fun k => k = G) X Y) (hG : G < B) : KeepsFrom B X Y := ⟨t.size, fun k o hB hk _ => (t.block k (lt_of_block hk) (by omega)).trans hk⟩

end Go.Proofs.Ytpnldfembbfgdaa
namespace Go.Proofs.Ytpnldfembbfgdaa
open Go.RowKit Go.Deep
set_option linter.unusedVariables false
set_option maxRecDepth 100000

/-- Bools that can be read. -/
def BA (W : World) (a : Option Addr) (n : Nat) (f : Nat → Bool) : Prop := ∀ j, j < n → ∃ b off, a = some ⟨b, off, none⟩ ∧ W.cell? ⟨b, off + j, none⟩ = some (.bool (f j))
theorem BA.none {W : World} {a : Option Addr} {f : Nat → Bool} : BA W a 0 f := fun j hj => by omega
theorem Bools.ba {W : World} {a : Option Addr} {f : Nat → Bool} (h : Bools W a f) : BA W a 3 f := fun j hj => by
  obtain ⟨b, off, e, hc⟩ := h
  exact ⟨b, off, e, hc j hj⟩
theorem OwnBB.ba {W : World} {G : Nat} {f : Nat → Bool} (h : OwnBB W G f) : BA W (some ⟨G, 0, Option.none⟩) 3 f := fun j hj => ⟨G, 0, rfl, by rw [Nat.zero_add]; exact (h.at hj).1⟩
theorem BA.below {W W' : World} {a : Option Addr} {n : Nat} {f : Nat → Bool} (h : BA W a n f) (b : Below W.heap.size W W') : BA W' a n f := fun j hj => by
  obtain ⟨b0, off, e, hc⟩ := h j hj
  exact ⟨b0, off, e, (b.cell (p := ⟨b0, off + j, Option.none⟩) (block_lt hc)).trans hc⟩
def rampB (j : Nat) : Bool := (1 + j) % 3 == 0

end Go.Proofs.Ytpnldfembbfgdaa
namespace Go.Proofs.Ytpnldfembbfgdaa
open Go.RowKit Go.Deep
set_option linter.unusedVariables false
set_option maxRecDepth 100000

theorem catB_parts {N : Nat} {ss : List L2V} (h : catB N ss = true) : N ≤ 4 ∧ ss.all L2V.ok = true := by
  simp only [catB, Bool.and_eq_true] at h
  have := inB_iff.1 h.1
  exact ⟨by omega, h.2⟩

end Go.Proofs.Ytpnldfembbfgdaa
namespace Go.Proofs.Ytpnldfembbfgdaa
open Go.RowKit Go.Deep
set_option linter.unusedVariables false
set_option maxRecDepth 100000

theorem ISG.off {S : Nat → Prop} {w w' : World} {ad : Option Addr} {ts : List IV} (h : ISG w ad ts) (t : Touch S w w') (h0 : 0 < ts.length → ∀ b o, ad = some ⟨b, o, none⟩ → ¬ S b) (h1 : ∀ i, i < ts.length → ∀ b o, (ts[i]?.getD noI).a = some ⟨b, o, none⟩ → ¬ S b) : ISG w' ad ts := by
  intro i hi
  obtain ⟨b, off, e, hc, ha⟩ := h i hi
  have hb := t.block b (block_lt hc) (h0 (by omega) b off e)
  exact ⟨b, off, e, (World.cell?_of_block hb).trans hc, ha.1.off t (h1 i hi), ha.2⟩
/-- Parts that lie off some blocks. -/
structure Pt (S : Nat → Prop) (W : World) (ad : Option Addr) (ts : List IV) : Prop where
  g : ISG W ad ts
  na : 0 < ts.length → ∀ b o, ad = some ⟨b, o, none⟩ → ¬ S b
  nk : ∀ i, i < ts.length → ∀ b o, (ts[i]?.getD noI).a = some ⟨b, o, none⟩ → ¬ S b
theorem Pt.touch {S S' : Nat → Prop} {W W' : World} {ad : Option Addr} {ts : List IV} (h : Pt S W ad ts) (t : Touch S' W W') (hS : ∀ k, S' k → S k) : Pt S W' ad ts :=
  ⟨h.g.off t (fun h0 b o e hs => h.na h0 b o e (hS _ hs)) (fun i hi b o e hs => h.nk i hi b o e (hS _ hs)), h.na, h.nk⟩
theorem Pt.below {S : Nat → Prop} {W W' : World} {ad : Option Addr} {ts : List IV} (h : Pt S W ad ts) (b : Below W.heap.size W W') : Pt S W' ad ts := ⟨h.g.below b, h.na, h.nk⟩
theorem ints_ne {W : World} {R : Nat} {a : Option Addr} {n : Nat} {x : List Int} {u v : Value} {t : TypeId} (h : Ints W a n x) (hn : n = 3) (c : Cel W R [u, v] t) : ∀ b o, a = some ⟨b, o, none⟩ → b ≠ R := fun b o e hb => by
  subst hb
  obtain ⟨b', o', e', hc⟩ := h.2 2 (by omega)
  rw [e] at e'
  simp only [Option.some.injEq, Addr.mk.injEq, and_true] at e'
  obtain ⟨rfl, rfl⟩ := e'
  rw [c.cell (o + 2)] at hc
  simp at hc
/-- Parts in a row of their own; what is older may change. -/
structure JPt (n0 : Nat) (G cap : Nat) (ts : List IV) (W : World) : Prop where
  o : W.ownsRow n0 26 1 (.slice (some ⟨G, 0, none⟩) ts.length cap) ts.length (ts.map IV.v)
  k : ∀ j, j < ts.length → (ts[j]?.getD noI).n = 3 ∧ Ints W (ts[j]?.getD noI).a 3 (ts[j]?.getD noI).x ∧ ∀ b o, (ts[j]?.getD noI).a = some ⟨b, o, none⟩ → b ≠ G
theorem JP.old {w W : World} {G cap : Nat} {ts : List IV} (j : JP w G cap ts W) : JPt w.heap.size G cap ts W := ⟨j.o, j.k⟩
theorem JPt.lt {n0 : Nat} {W : World} {G cap : Nat} {ts : List IV} (j : JPt n0 G cap ts W) : n0 ≤ G ∧ G < W.heap.size := j.o.lt G rfl
theorem JPt.below {n0 : Nat} {W W' : World} {G cap : Nat} {ts : List IV} (j : JPt n0 G cap ts W) (h : Below W.heap.size W W') : JPt n0 G cap ts W' :=
  ⟨own_below j.o h, fun i hi => by obtain ⟨a, b, c⟩ := j.k i hi; exact ⟨a, b.below h, c⟩⟩
theorem JPt.touch {n0 R : Nat} {W W' : World} {G cap : Nat} {ts : List IV} {u v : Value} {ty : TypeId} (j : JPt n0 G cap ts W) (t : Touch (fun x => x = R) W W') (hR : R < n0) (hc : Cel W R [u, v] ty) : JPt n0 G cap ts W' :=
  ⟨ownsRow_touch j.o t (fun k hk => by omega), fun i hi => by obtain ⟨a, b, c⟩ := j.k i hi; exact ⟨a, b.off t (ints_ne b rfl hc), c⟩⟩
theorem JPt.g {n0 : Nat} {W : World} {G cap : Nat} {ts : List IV} (j : JPt n0 G cap ts W) : ISG W (some ⟨G, 0, none⟩) ts := fun i hi => by
  obtain ⟨h1, h2, h3⟩ := j.k i hi
  refine ⟨G, 0, rfl, ?_, ?_, by omega⟩
  · rw [Nat.zero_add, own_cell j.o i (by omega), List.getElem?_map, List.getElem?_eq_getElem hi]; rfl
  · rw [h1]; exact h2
theorem JPt.pt {S : Nat → Prop} {n0 : Nat} {W : World} {G cap : Nat} {ts : List IV} (j : JPt n0 G cap ts W) (hS : ∀ k, S k → k < n0) (hR : ∀ k, S k → ∃ u v t, Cel W k [u, v] t) : Pt S W (some ⟨G, 0, none⟩) ts := by
  refine ⟨j.g, fun _ b o e hs => ?_, fun i hi b o e hs => ?_⟩
  · have h1 := hS _ hs
    have h2 := j.lt.1
    simp only [Option.some.injEq, Addr.mk.injEq] at e
    omega
  · obtain ⟨h1, h2, _⟩ := j.k i hi
    obtain ⟨u, v, t, hc⟩ := hR b hs
    exact ints_ne h2 rfl hc b o e rfl
theorem JPt.ptApp {S : Nat → Prop} {n0 : Nat} {W W' : World} {G cap g cp k : Nat} {ts : List IV} {s : IV} {o : Obj} (j : JPt n0 G cap ts W) (hk : ts.length = k) (hI : Ints W s.a s.n s.x) (hn : s.n ≤ 1048576) (hb : ∀ b o, s.a = some ⟨b, o, none⟩ → b ≠ G ∧ ¬ S b)
    (hown : W'.ownsRow n0 26 1 (.slice (some ⟨g, 0, none⟩) (k + 1) cp) (k + 1) (ts.map IV.v ++ [s.v])) (hg : (W.alloc o).grownBy W' (some G)) (hat : g = G ∨ W.heap.size ≤ g) (hS : ∀ k, S k → k < n0) (hR : ∀ k, S k → ∃ u v t, Cel W k [u, v] t) : Pt S W' (some ⟨g, 0, none⟩) (ts ++ [s]) := by
  subst hk
  have A : Below W.heap.size W (W.alloc o) := (Below.refl _ _).alloc (Nat.le_refl _) _
  have T : Touch (fun y => y = G) (W.alloc o) W' := ⟨hg.os, hg.tape, hg.output, hg.size, fun z hz hn => hg.block z hz (fun e => hn (by simpa using e))⟩
  have P := j.pt hS hR
  have hlt := j.lt
  refine ⟨fun i hi => ?_, fun _ b o e hs => ?_, fun i hi b o e hs => ?_⟩
  · refine ⟨g, 0, rfl, ?_, ?_⟩
    · rw [Nat.zero_add, own_cell hown i (by rw [List.length_append] at hi; simpa using hi)]
      by_cases h : i < ts.length
      · rw [List.getElem?_append_left (by simpa using h), List.getElem?_append_left h, List.getElem?_map, List.getElem?_eq_getElem h]; rfl
      · rw [List.length_append, List.length_singleton] at hi
        obtain rfl : i = ts.length := by omega
        rw [List.getElem?_append_right (by simp), List.getElem?_append_right (Nat.le_refl _)]
        simp
    · by_cases h : i < ts.length
      · rw [List.getElem?_append_left h]
        obtain ⟨h1, h2, h3⟩ := j.k i h
        refine ⟨?_, by omega⟩
        rw [h1]
        exact (h2.below A).off T (fun b o e => h3 b o e)
      · rw [List.length_append, List.length_singleton] at hi
        obtain rfl : i = ts.length := by omega
        rw [List.getElem?_append_right (Nat.le_refl _), Nat.sub_self]
        exact ⟨(hI.below A).off T (fun b o e => (hb b o e).1), hn⟩
  · have h1 := hS _ hs
    simp only [Option.some.injEq, Addr.mk.injEq] at e
    omega
  · by_cases h : i < ts.length
    · rw [List.getElem?_append_left h] at e
      exact P.nk i h b o e hs
    · rw [List.length_append, List.length_singleton] at hi
      obtain rfl : i = ts.length := by omega
      rw [List.getElem?_append_right (Nat.le_refl _), Nat.sub_self] at e
      exact (hb b o e).2 hs

set_option maxHeartbeats 1600000 in
theorem sforms_jp (ad : Option Addr) (N cap : Nat) (ss : List L2V) (w : World) (hN : ss.length = N) (hF : LSG w ad ss) (hN1 : N ≤ 1048576) (hU : catB N ss = true) :
    Calls Try.prog 54 #[.slice ad N cap] w fun e w' => ∃ G cG ts nt, e = .returned (.slice (some ⟨G, 0, none⟩) nt cG) ∧ ts.length = nt ∧ JP w G cG ts w' ∧ ts.map IV.x = catP ss ∧ nt ≤ 600000 := by
  have HN : Hid (ss.length = N) := hN
  have HU : Hid (catB N ss = true) := hU
  clear hN
  go_enter Try.func54, Try.ntmps54
  go_wp2_with fail
  refine (scat_any _ _ _ ss _ HN.out hF hN1).mono ?_
  rintro e w1 ⟨rfl, b1⟩
  rw [hU]
  clear hU
  go_wp2_with fail
  refine (sboth_any _ _ _ ss _ HN.out (hF.below b1) (catB_parts HU.out).2 (catB_parts HU.out).1).mono ?_
  rintro e w2 ⟨G, cG, ts, nt, Gp, cp, rfl, hl, jp, hx, hnt, o, lGp⟩
  have jp' : JP w G cG ts w2 := ⟨b1.trans (jp.b.mono b1.size), ⟨jp.o.1, by
    rcases jp.o.2 with h | ⟨g, cap', cur, hv, hg, r⟩
    · exact .inl h
    · exact .inr ⟨g, cap', cur, hv, Nat.le_trans b1.size hg, r⟩⟩, jp.k⟩
  have HX : Hid _ := hx
  have HL : Hid _ := hl
  clear jp hx hl o
  go_wp2
  go_ret
  exact ⟨G, cG, ts, nt, rfl, HL.out, jp', HX.out, hnt⟩
theorem JAs.cat {w W : World} {R : Nat} {a : Option Addr} {n cap : Nat} {bs : List Int} {q : Int} {v : Value} {ss : List L2V} {N : Nat} (j : JAs w R a n cap bs q v ss W) (hN : ss.length = N) (h1 : 1 ≤ N) (h4 : N ≤ 4) : catB N ss = true := by
  unfold catB
  simp only [Bool.and_eq_true]
  refine ⟨inB_iff.2 (by omega), List.all_eq_true.2 fun s hs => ?_⟩
  obtain ⟨i, hi, rfl⟩ := List.getElem_of_mem hs
  have := (j.ac i hi).ok
  rw [List.getElem?_eq_getElem hi] at this
  exact this

set_option maxHeartbeats 3200000 in
theorem dKeeps (a : Option Addr) (n cap : Nat) (bs : List Int) (w : World) (h : BInts w a n bs) (hn : n ≤ cap) (hn1 : n ≤ 1048576) (hc : cap ≤ maxLen) :
    Calls Try.prog 23 #[.slice a n cap] w fun e w' => ∃ ba bn bc ga gn gc B G pa pn pc ts s ea en ec E, e = .returned (.tuple #[treV ba bn bc ga gn gc, .slice pa pn pc, .int .i64 s, .slice ea en ec]) ∧ Below w.heap.size w w' ∧ Ints w' ba bn B ∧ Ints w' ga gn G ∧ bn ≤ 4 ∧ gn ≤ 3 ∧ bnd 51 G ∧ ISG w' pa ts ∧ ts.length = pn ∧ pn ≤ 600001 ∧ Ints w' ea en E ∧ en ≤ 4 ∧ -1 ≤ s ∧ s ≤ 3 := by
  have q0 := Cel.new w [.slice none 0 0, .slice none 0 0] 45
  have al := (Below.refl w.heap.size w).alloc (Nat.le_refl _) (.cells #[.slice none 0 0, .slice none 0 0] 45)
  obtain ⟨i0, hi, hz0, hz1, hz2⟩ := info_parts Try.infoI
  go_enter Try.func23, Try.ntmps23
  go_wp2_with fail
  refine (open_any _ _ _ bs _ (h.below al) hn hn1 hc).mono ?_
  rintro e w1 ⟨R, n', cap2, bs', rfl, b1, hR, r1⟩
  rw [World.size_alloc] at hR
  replace q0 := q0.below b1
  have hw := q0.lt
  have hRl := r1.c.lt
  have hra := r1.ha
  go_wp2_with fail
  refine (acts_f R a n' cap2 bs' 0 _ r1 (by omega) (by omega) r1.ha).mono ?_
  rintro e w2 ⟨ad, N, c, ss, q, rfl, j, hN, hN1, hN4, y0, y1⟩
  have HC : Hid (catB N ss = true) := j.cat hN hN1 hN4
  have HN : Hid (ss.length = N) := hN
  have T2 := j.t
  have z2 := T2.size
  have r2 := j.r
  have hL := j.lsg hN
  replace q0 := q0.touch T2 (by omega)
  clear j hN r1
  go_wp2_with fail
  refine (sforms_jp _ _ _ ss _ HN.out hL (by omega) HC.out).mono ?_
  rintro e w3 ⟨G0, cG, ts, nt, rfl, hl, jp, _, hnt⟩
  have HL : Hid (ts.length = nt) := hl
  replace q0 := q0.below jp.b
  have r3 := r2.below jp.b
  have T3 := T2.trans (Touch.of jp.b)
  clear hl r2 T2 hL
  go_wp2_with fail
  refine (pick_any R a n' cap2 bs' q 16 _ r3 (by omega) (by omega) (by omega) (by omega)).mono ?_
  rintro e w4 ⟨u, u0, u1, rfl, t4, R4⟩
  have jlt := jp.lt
  have hS : ∀ k, (k = R ∨ k = w.heap.size) → k < w2.heap.size := fun k hk => by omega
  have hRR : ∀ k, (k = R ∨ k = w.heap.size) → ∃ u v t, Cel w3 k [u, v] t := fun k hk => by
    rcases hk with rfl | rfl
    · exact ⟨_, _, _, r3.c⟩
    · exact ⟨_, _, _, q0⟩
  replace q0 := q0.touch t4 (by omega)
  have T4 := T3.trans t4
  have z4 := T4.size
  have z34 := t4.size
  by_cases hu : u = 0
  · obtain rfl : u = 0 := by omega
    have hS4 : ∀ k, (k = R ∨ k = w.heap.size) → ∃ u v t, Cel w4 k [u, v] t := fun k hk => by
      rcases hk with rfl | rfl
      · exact ⟨_, _, _, R4.c⟩
      · exact ⟨_, _, _, q0⟩
    have j4 := jp.old.touch t4 (by omega) r3.c
    clear jp
    have al2 := (Below.refl w4.heap.size w4).alloc (Nat.le_refl _) (.cells #[.int .i64 1, .int .i64 2] 3)
    have c2 := Cel.new w4 [.int .i64 1, .int .i64 2] 3
    have al3 := (Below.refl (w4.alloc (.cells #[.int .i64 1, .int .i64 2] 3)).heap.size (w4.alloc (.cells #[.int .i64 1, .int .i64 2] 3))).alloc (Nat.le_refl _) (.cells #[.slice (some ⟨w4.heap.size, 0, none⟩) 2 2] 26)
    have j5 := j4.below al2
    have o5 := (j5.below al3).o
    rw [HL.out] at o5
    obtain ⟨W5, hW5⟩ : ∃ W, W = w4.alloc (.cells #[.int .i64 1, .int .i64 2] 3) := ⟨_, rfl⟩
    have hz5 : W5.heap.size = w4.heap.size + 1 := by rw [hW5, World.size_alloc]
    have hg0 := heap_alloc_new W5 (.cells #[.slice (some ⟨w4.heap.size, 0, none⟩) 2 2] 26)
    rw [hW5] at hg0
    go_wp2_with (at_builtin; refine wpList_append_lies _ rfl (.tmp 16) (.tmp 18) 46 rfl w2.heap.size 26 i0 _ 1 24 Try.underlying46 hi hz0 hz1 hz2 rfl (by omega) (.slice (some ⟨G0, 0, none⟩) nt cG) nt (ts.map IV.v) (by rfl) o5 ⟨w4.heap.size + 1, 0, none⟩ 1 1 [.slice (some ⟨w4.heap.size, 0, none⟩) 2 2] (by rfl) (by rfl) (World.news_of_block (cs := #[.slice (some ⟨w4.heap.size, 0, none⟩) 2 2]) (t := 26) (fr := (0, 0)) (by rw [World.size_alloc] at hg0; exact hg0)) (by simp [Value.oneCell']) (by omega) (by unfold maxLen; omega) (by omega) (by simp only [World.size_alloc]; omega) (w4.heap.size + 1 + 1) (by simp only [World.size_alloc]) ?_)
    intro g9 c9 w5 hown hgrow hat9 _
    rw [← hW5] at hgrow j5 al2 c2
    have i2 : Ints W5 (some ⟨w4.heap.size, 0, none⟩) 2 [1, 2] := ⟨rfl, fun i hi => ⟨_, 0, rfl, by
      rw [Nat.zero_add, c2.cell i]
      match i, hi with
      | 0, _ => rfl
      | 1, _ => rfl⟩⟩
    have P : Pt (fun k => k = R ∨ k = w.heap.size) w5 (some ⟨g9, 0, none⟩) (ts ++ [⟨some ⟨w4.heap.size, 0, none⟩, 2, 2, [1, 2]⟩]) := j5.ptApp HL.out i2 (by show 2 ≤ 1048576; omega) (fun b o e => by (have e' : (some ⟨w4.heap.size, 0, none⟩ : Option Addr) = some ⟨b, o, none⟩ := e; simp only [Option.some.injEq, Addr.mk.injEq] at e'; have := j4.lt; exact ⟨by omega, by omega⟩)) hown hgrow (by rcases hat9 with h | h; exact .inl (by simpa [Value.ownBlock] using h.symm); exact .inr (by omega)) hS (fun k hk => by obtain ⟨u, v, t, hc⟩ := hS4 k hk; exact ⟨u, v, t, hc.below al2⟩)
    have al4 := (Below.refl W5.heap.size W5).alloc (Nat.le_refl _) (.cells #[.slice (some ⟨w4.heap.size, 0, none⟩) 2 2] 26)
    have Tg : Touch (fun x => x = G0) (W5.alloc (.cells #[.slice (some ⟨w4.heap.size, 0, none⟩) 2 2] 26)) w5 := ⟨hgrow.os, hgrow.tape, hgrow.output, hgrow.size, fun z hz hn => hgrow.block z hz (fun e => hn (by simpa [Value.ownBlock] using e))⟩
    have T5 := ((T4.trans (Touch.of al2)).trans (Touch.of al4)).grown hgrow (fun z hz => by simp only [Value.ownBlock, Option.some.injEq] at hz; omega)
    have r5 := ((R4.below al2).below al4).touch Tg (by omega) (fun h0 b o e hs => by have := hra h0 b o e; omega)
    replace q0 := ((q0.below al2).below al4).touch Tg (by omega)
    clear hown hgrow Tg al2 al3 al4 j4 j5 o5 hg0 hW5 c2 i2 hS4 R4 T4 hat9
    clear hS hRR r3 T3 t4
    go_wp2_with fail
    refine (treaty_f R a n' cap2 bs' (q + 1) 12 _ r5 (by omega) (by omega) (by omega) (by omega) r5.ha).mono ?_
    rintro e w6 ⟨ba, bn, bc, ga, gn, gc, B, G, q6, rfl, d6⟩
    have u6 := d6.q0
    have u7 := d6.q1
    replace q0 := q0.touch d6.t (by omega)
    replace P := P.touch d6.t (fun k hk => .inl hk)
    have z5 := T5.size
    go_wp2_with fail
    refine (pick_any R a n' cap2 bs' q6 4 _ d6.r (by omega) (by omega) (by omega) (by omega)).mono ?_
    rintro e w7 ⟨s1, s10, s11, rfl, t7, R7⟩
    go_wp2_with fail
    refine (pick_any R a n' cap2 bs' (q6 + 1) 2 _ R7 (by omega) (by omega) (by omega) (by omega)).mono ?_
    rintro e w8 ⟨s2, s20, s21, rfl, t8, R8⟩
    go_wp2_with fail
    refine (added_gen R a n' cap2 bs' (q6 + 1 + 1) 6 _ R8 (by omega) (by omega) (by omega) (by omega) R8.ha).mono ?_
    rintro e w9 ⟨ea, en, ec, E, q9, rfl, d9⟩
    have t9 := (t7.trans t8).trans d9.t
    have zz := (t7.trans t8).size
    have z9 := t9.size
    have z6 := d6.t.size
    have lb := d6.lb
    have lg := d6.lg
    have le := d9.lo
    have bI := d6.b.off t9 (fun b o e hs => by have := lb b o e; omega)
    have gI := d6.g.off t9 (fun b o e hs => by have := lg b o e; omega)
    have eI := d9.i
    replace q0 := q0.touch t9 (by omega)
    replace P := P.touch t9 (fun k hk => .inl hk)
    have x1 := d6.b4
    have x2 := d6.g3
    have x3 := d6.gB
    have x4 := d9.h4
    have T9 := (T5.trans d6.t).trans t9
    have BB : Below w.heap.size w w9 := (al.trans (b1.mono al.size)).trans (T9.below (by omega) (fun k hk => by omega))
    have g0 := q0.cell 0
    have g1 := q0.cell 1
    have h0 := q0.free 0
    have h1 := q0.free 1
    have l3 := q0.lt
    simp only [List.getElem?_cons_zero, List.getElem?_cons_succ] at g0 g1
    clear d6 d9 t7 t8 t9 T9 T5 R7 R8 r5 al b1
    go_wp2
    refine bodyPost_ret (v := .tuple #[treV ba bn bc ga gn gc, .slice (some ⟨g9, 0, none⟩) (nt + 1) c9, .int .i64 (s1 - s2), .slice ea en ec]) (by simp [results, Try.results23, go_sem, g0, g1]) rfl ⟨ba, bn, bc, ga, gn, gc, B, G, _, (nt + 1), c9, (ts ++ [⟨some ⟨w4.heap.size, 0, none⟩, 2, 2, [1, 2]⟩]), s1 - s2, ea, en, ec, E, rfl, (BB.setCell (Nat.le_refl _) _).setCell (Nat.le_refl _) _, ?_, ?_, x1, x2, x3, ?_, by rw [List.length_append, HL.out]; rfl, by omega, ?_, x4, by omega, by omega⟩
    · exact (bI.setFar (fun b o e => by have := lb b o e; omega) 0 _).setFar (fun b o e => by have := lb b o e; omega) 1 _
    · exact (gI.setFar (fun b o e => by have := lg b o e; omega) 0 _).setFar (fun b o e => by have := lg b o e; omega) 1 _
    · exact (P.touch (S' := fun k => k = w.heap.size) (Touch.setCell (S := fun x => x = w.heap.size) (Touch.setCell (S := fun x => x = w.heap.size) (Touch.refl _ _) rfl _) rfl _) (fun k hk => .inr hk)).g
    · exact (eI.setFar (fun b o e => by have := le b o e; omega) 0 _).setFar (fun b o e => by have := le b o e; omega) 1 _
  · have P := (jp.old.pt hS hRR).touch t4 (fun k hk => .inl hk)
    have hu' : (u == 0) = false := by simpa using hu
    have r5 := R4
    have T5 := T4
    clear jp R4 T4
    clear hS hRR r3 T3 t4
    go_wp2_with fail
    refine (treaty_f R a n' cap2 bs' (q + 1) 12 _ r5 (by omega) (by omega) (by omega) (by omega) r5.ha).mono ?_
    rintro e w6 ⟨ba, bn, bc, ga, gn, gc, B, G, q6, rfl, d6⟩
    have u6 := d6.q0
    have u7 := d6.q1
    replace q0 := q0.touch d6.t (by omega)
    replace P := P.touch d6.t (fun k hk => .inl hk)
    have z5 := T5.size
    go_wp2_with fail
    refine (pick_any R a n' cap2 bs' q6 4 _ d6.r (by omega) (by omega) (by omega) (by omega)).mono ?_
    rintro e w7 ⟨s1, s10, s11, rfl, t7, R7⟩
    go_wp2_with fail
    refine (pick_any R a n' cap2 bs' (q6 + 1) 2 _ R7 (by omega) (by omega) (by omega) (by omega)).mono ?_
    rintro e w8 ⟨s2, s20, s21, rfl, t8, R8⟩
    go_wp2_with fail
    refine (added_gen R a n' cap2 bs' (q6 + 1 + 1) 6 _ R8 (by omega) (by omega) (by omega) (by omega) R8.ha).mono ?_
    rintro e w9 ⟨ea, en, ec, E, q9, rfl, d9⟩
    have t9 := (t7.trans t8).trans d9.t
    have zz := (t7.trans t8).size
    have z9 := t9.size
    have z6 := d6.t.size
    have lb := d6.lb
    have lg := d6.lg
    have le := d9.lo
    have bI := d6.b.off t9 (fun b o e hs => by have := lb b o e; omega)
    have gI := d6.g.off t9 (fun b o e hs => by have := lg b o e; omega)
    have eI := d9.i
    replace q0 := q0.touch t9 (by omega)
    replace P := P.touch t9 (fun k hk => .inl hk)
    have x1 := d6.b4
    have x2 := d6.g3
    have x3 := d6.gB
    have x4 := d9.h4
    have T9 := (T5.trans d6.t).trans t9
    have BB : Below w.heap.size w w9 := (al.trans (b1.mono al.size)).trans (T9.below (by omega) (fun k hk => by omega))
    have g0 := q0.cell 0
    have g1 := q0.cell 1
    have h0 := q0.free 0
    have h1 := q0.free 1
    have l3 := q0.lt
    simp only [List.getElem?_cons_zero, List.getElem?_cons_succ] at g0 g1
    clear d6 d9 t7 t8 t9 T9 T5 R7 R8 r5 al b1
    go_wp2
    refine bodyPost_ret (v := .tuple #[treV ba bn bc ga gn gc, .slice (some ⟨G0, 0, none⟩) nt cG, .int .i64 (s1 - s2), .slice ea en ec]) (by simp [results, Try.results23, go_sem, g0, g1]) rfl ⟨ba, bn, bc, ga, gn, gc, B, G, _, nt, cG, ts, s1 - s2, ea, en, ec, E, rfl, (BB.setCell (Nat.le_refl _) _).setCell (Nat.le_refl _) _, ?_, ?_, x1, x2, x3, ?_, HL.out, by omega, ?_, x4, by omega, by omega⟩
    · exact (bI.setFar (fun b o e => by have := lb b o e; omega) 0 _).setFar (fun b o e => by have := lb b o e; omega) 1 _
    · exact (gI.setFar (fun b o e => by have := lg b o e; omega) 0 _).setFar (fun b o e => by have := lg b o e; omega) 1 _
    · exact (P.touch (S' := fun k => k = w.heap.size) (Touch.setCell (S := fun x => x = w.heap.size) (Touch.setCell (S := fun x => x = w.heap.size) (Touch.refl _ _) rfl _) rfl _) (fun k hk => .inr hk)).g
    · exact (eI.setFar (fun b o e => by have := le b o e; omega) 0 _).setFar (fun b o e => by have := le b o e; omega) 1 _

end Go.Proofs.Ytpnldfembbfgdaa
namespace Go.Proofs.Ytpnldfembbfgdaa
open Go.RowKit Go.Deep
set_option linter.unusedVariables false
set_option maxRecDepth 100000

theorem Ints.offN {S : Nat → Prop} {W W' : World} {a : Option Addr} {n : Nat} {zs : List Int} (h : Ints W a n zs) (t : Touch S W W') (hS : 0 < n → ∀ b o, a = some ⟨b, o, none⟩ → ¬ S b) : Ints W' a n zs := by
  by_cases hn : 0 < n
  · exact h.off t (hS hn)
  · exact ⟨h.1, fun i hi => by omega⟩
/-- A list all of whose blocks are of a kind. -/
structure IvP (P : Nat → Prop) (W : World) (s : IV) : Prop where
  i : Ints W s.a s.n s.x
  n4 : s.n ≤ 4
  pa : ∀ b o, s.a = some ⟨b, o, none⟩ → P b
section
variable {P P' : Nat → Prop} {W W' : World} {s : IV}
theorem IvP.touch {S : Nat → Prop} (h : IvP P W s) (t : Touch S W W') (hS : ∀ b, P b → ¬ S b) : IvP P W' s := ⟨h.i.off t (fun b o e => hS b (h.pa b o e)), h.n4, h.pa⟩
theorem IvP.below (h : IvP P W s) (b : Below W.heap.size W W') : IvP P W' s := ⟨h.i.below b, h.n4, h.pa⟩
theorem IvP.mono (h : IvP P W s) (hP : ∀ b, P b → P' b) : IvP P' W s := ⟨h.i, h.n4, fun b o e => hP b (h.pa b o e)⟩
end
/-- Lists that are being drawn. -/
structure JDs (w : World) (R : Nat) (a : Option Addr) (n cap : Nat) (bs : List Int) (q : Int) (v : Value) (ss : List IV) (W : World) : Prop where
  t : Touch (fun x => x = R) w W
  r : Rd W R a n cap bs q
  o : W.ownsRow w.heap.size 26 1 v ss.length (ss.map IV.v)
  ac : ∀ i, i < ss.length → IvP (fun b => w.heap.size ≤ b ∧ b < W.heap.size ∧ v.ownBlock ≠ some b) W (ss[i]?.getD noI)
  lR : R < w.heap.size
  lb : 0 < n → ∀ b o, a = some ⟨b, o, none⟩ → b < w.heap.size
section
variable {w W W' : World} {R : Nat} {a : Option Addr} {n cap : Nat} {bs : List Int} {q : Int} {v : Value} {ss : List IV}
theorem JDs.below (j : JDs w R a n cap bs q v ss W) (b : Below W.heap.size W W') : JDs w R a n cap bs q v ss W' :=
  ⟨j.t.trans (Touch.of b), j.r.below b, own_belowL j.o b, fun i hi => ((j.ac i hi).below b).mono (fun x h => ⟨h.1, Nat.lt_of_lt_of_le h.2.1 b.size, h.2.2⟩), j.lR, j.lb⟩
theorem JDs.pick {q' : Int} (j : JDs w R a n cap bs q v ss W) (t : Touch (fun x => x = R) W W') (r : Rd W' R a n cap bs q') : JDs w R a n cap bs q' v ss W' := by
  have lR := j.lR
  exact ⟨j.t.trans t, r, ownsRow_touch j.o t (fun k h => by omega), fun i hi => ((j.ac i hi).touch t (fun b h => by omega)).mono (fun x h => ⟨h.1, Nat.lt_of_lt_of_le h.2.1 t.size, h.2.2⟩), j.lR, j.lb⟩
theorem JDs.isg {ad : Option Addr} {N c : Nat} (j : JDs w R a n cap bs q (.slice ad N c) ss W) (hl : ss.length = N) : ISG W ad ss := by
  intro i hi
  rcases j.o.2 with ⟨hv, h0⟩ | ⟨g, cap', cur, hv, _⟩
  · omega
  · have hv' : ad = some ⟨g, 0, none⟩ := by simp only [Value.slice.injEq] at hv; exact hv.1
    subst hv'
    refine ⟨g, 0, rfl, ?_, (j.ac i hi).i, by have := (j.ac i hi).n4; omega⟩
    have o := j.o
    rw [hl] at o
    have := o.cellAt i (by omega)
    rw [Nat.zero_add, this, List.getElem?_map, List.getElem?_eq_getElem hi]
    simp
theorem JDs.app {s : IV} {g c k H : Nat} (j : JDs w R a n cap bs q v ss W) (hk : ss.length = k) (hs : IvP (fun b => w.heap.size ≤ b ∧ b < H ∧ v.ownBlock ≠ some b) W s) (hH : H ≤ W.heap.size) (hsz : ∀ i, i < ss.length → IvP (fun b => b < H) W (ss[i]?.getD noI))
    (hown : W'.ownsRow w.heap.size 26 1 (.slice (some ⟨g, 0, none⟩) (k + 1) c) (k + 1) (ss.map IV.v ++ [s.v])) (hg : W.grownBy W' v.ownBlock) (hat : v.ownBlock = some g ∨ H ≤ g) : JDs w R a n cap bs q (.slice (some ⟨g, 0, none⟩) (k + 1) c) (ss ++ [s]) W' := by
  have hr : ∀ x, v.ownBlock = some x → w.heap.size ≤ x := fun x hx => (j.o.lt x hx).1
  have lR := j.lR
  have T : Touch (fun x => v.ownBlock = some x) W W' := ⟨hg.os, hg.tape, hg.output, hg.size, fun x hx hs => hg.block x hx (fun e => hs e.symm)⟩
  have hn : ∀ b, v.ownBlock ≠ some b → b < H → (Value.slice (some ⟨g, 0, none⟩) (k + 1) c).ownBlock ≠ some b := fun b h1 h2 e => by
    simp only [Value.ownBlock, Option.some.injEq] at e
    rcases hat with h | h
    · rw [h] at h1; exact h1 (by rw [e])
    · omega
  have hs' := hg.size
  refine ⟨j.t.grown hg hr, j.r.touch T (fun e => by have := hr _ e; omega) (fun h0 b o hab e => by have := j.lb h0 b o hab; have := hr _ e; omega), ?_, fun i hi => ?_, j.lR, j.lb⟩
  · rw [List.length_append, hk, List.map_append]
    simpa using hown
  · by_cases h : i < ss.length
    · rw [List.getElem?_append_left h]
      have h1 := (j.ac i h).touch T (fun b hb => hb.2.2)
      have h2 := hsz i h
      exact ⟨h1.i, h1.n4, fun b o e => ⟨(h1.pa b o e).1, by have := h2.pa b o e; omega, hn b (h1.pa b o e).2.2 (h2.pa b o e)⟩⟩
    · have : i = ss.length := by rw [List.length_append] at hi; simp at hi; omega
      subst this
      have e : (ss ++ [s])[ss.length]?.getD noI = s := by simp
      rw [e]
      exact (hs.touch T (fun b hb => hb.2.2)).mono (fun b hb => ⟨hb.1, by omega, hn b hb.2.2 hb.2.1⟩)
end

theorem JDs.lo {w W : World} {R : Nat} {a : Option Addr} {n cap : Nat} {bs : List Int} {q : Int} {ad : Option Addr} {N c : Nat} {ss : List IV} (j : JDs w R a n cap bs q (.slice ad N c) ss W) (hN : ss.length = N) (S : Nat → Prop) (hS : ∀ k, S k → k < w.heap.size) : Pt S W ad ss := by
  refine ⟨j.isg hN, fun h0 b o e hs => ?_, fun i hi b o e hs => ?_⟩
  · rcases j.o.2 with ⟨hv, h1⟩ | ⟨g, cap', cur, hv, hg, _⟩
    · omega
    · simp only [Value.slice.injEq] at hv
      have h2 := hv.1
      rw [e] at h2
      simp only [Option.some.injEq, Addr.mk.injEq] at h2
      have := hS b hs
      omega
  · have h1 := ((j.ac i hi).pa b o e).1
    have h2 := hS b hs
    omega
theorem three_zz {W : World} {B : Nat} (h : Cel W B [.int .i64 0, .int .i64 0, .int .i64 0] 3) : Ints W (some ⟨B, 0, none⟩) 3 [0, 0, 0] := ⟨rfl, fun i hi => ⟨B, 0, rfl, by
  rw [Nat.zero_add, h.cell i]
  match i, hi with
  | 0, _ => rfl
  | 1, _ => rfl
  | 2, _ => rfl⟩⟩

set_option maxHeartbeats 6400000 in
theorem dAll (a : Option Addr) (n cap : Nat) (bs : List Int) (w : World) (h : BInts w a n bs) (hn : n ≤ cap) (hn1 : n ≤ 1048576) (hc : cap ≤ maxLen) :
    Calls Try.prog 28 #[.slice a n cap] w fun e w' => ∃ ba bn bc ga gn gc B G pa pn pc ts ea en ec es, e = .returned (.tuple #[treV ba bn bc ga gn gc, .slice pa pn pc, .slice ea en ec]) ∧ Below w.heap.size w w' ∧ Ints w' ba bn B ∧ Ints w' ga gn G ∧ bn ≤ 4 ∧ gn ≤ 3 ∧ ISG w' pa ts ∧ ts.length = pn ∧ pn ≤ 600000 ∧ ISG w' ea es ∧ es.length = en ∧ en ≤ 4 := by
  have q0 := Cel.new w [.slice none 0 0, .slice none 0 0] 45
  have al := (Below.refl w.heap.size w).alloc (Nat.le_refl _) (.cells #[.slice none 0 0, .slice none 0 0] 45)
  obtain ⟨i0, hi, hz0, hz1, hz2⟩ := info_parts Try.infoI
  go_enter Try.func28, Try.ntmps28
  go_wp2_with fail
  refine (open_any _ _ _ bs _ (h.below al) hn hn1 hc).mono ?_
  rintro e w1 ⟨R, n', cap2, bs', rfl, b1, hR, r1⟩
  rw [World.size_alloc] at hR
  replace q0 := q0.below b1
  have hw := q0.lt
  have hRl := r1.c.lt
  have hra := r1.ha
  go_wp2_with fail
  refine (treaty_f R a n' cap2 bs' 0 12 _ r1 (by omega) (by omega) (by omega) (by omega) r1.ha).mono ?_
  rintro e w2 ⟨ba, bn, bc, ga, gn, gc, B, G, q, rfl, d2⟩
  have u0 := d2.q0
  have u1 := d2.q1
  have r2 := d2.r
  have T2 := d2.t
  have z2 := T2.size
  have hB := d2.b
  have hG := d2.g
  have lb := d2.lb
  have lg := d2.lg
  have hbn := d2.b4
  have hgn := d2.g3
  replace q0 := q0.touch T2 (by omega)
  clear d2 r1
  have bx := (Below.refl w2.heap.size w2).alloc (Nat.le_refl _) (.cells #[.slice ba bn bc, .slice ga gn gc] 45)
  have q6 := Cel.new w2 [.slice ba bn bc, .slice ga gn gc] 45
  replace q0 := q0.below bx
  replace r2 := r2.below bx
  replace T2 := T2.trans (Touch.of bx)
  replace hB := hB.below bx
  replace hG := hG.below bx
  go_upto_region 3 with fail
  obtain ⟨w3, hw3⟩ : ∃ W, W = w2.alloc (.cells #[.slice ba bn bc, .slice ga gn gc] 45) := ⟨_, rfl⟩
  have z3 : w2.heap.size + 1 ≤ w3.heap.size := by rw [hw3, World.size_alloc]; omega
  rw [← hw3]
  rw [← hw3] at q0 r2 T2 hB hG q6
  clear hw3 bx
  obtain ⟨X, hX⟩ : ∃ x, x = w2.heap.size := ⟨_, rfl⟩
  rw [← hX]
  rw [← hX] at q6
  have x1 : w1.heap.size ≤ X := by omega
  have x2 : X < w3.heap.size := by omega
  clear hX
  have lbx : 0 < bn → ∀ b o, ba = some ⟨b, o, none⟩ → b < w3.heap.size := fun h0 b o e => by have h := hB; rw [e] at h; exact h.blk h0
  have lgx : 0 < gn → ∀ b o, ga = some ⟨b, o, none⟩ → b < w3.heap.size := fun h0 b o e => by have h := hG; rw [e] at h; exact h.blk h0
  have al3 := (Below.refl w3.heap.size w3).alloc (Nat.le_refl _) (.cells #[] 26)
  have o3 := World.ownsRow_lit (base := w3.heap.size) (e := 26) (size := 1) w3 #[] 0 (Nat.le_refl _) (by unfold maxLen; omega) rfl
  have j0 : JDs w3 R a n' cap2 bs' q (.slice (some ⟨w3.heap.size, 0, none⟩) 0 0) [] (w3.alloc (.cells #[] 26)) := ⟨Touch.of al3, r2.below al3, o3, fun i hi => by simp at hi, by omega, fun h0 b o e => by have := hra h0 b o e; omega⟩
  clear al3 o3 r2
  go_wp2_with fail
  go_loopw [7, 8] (fun v i wr => ∃ (k : Nat) (ss : List IV) (q' : Int), k ≤ gn ∧ i = .int .i64 k ∧ ss.length = k ∧ q ≤ q' ∧ q' ≤ q + 8 * k ∧ JDs w3 R a n' cap2 bs' q' v ss wr) (fun _ i _ => gn - (intOf i).toNat)
  case atStart => exact ⟨0, [], q, by omega, rfl, rfl, by omega, by omega, j0⟩
  case round =>
    clear j0
    obtain ⟨k, ss, q', hk, rfl, hl, v0, v1, j⟩ := hrel
    have HK : Hid (ss.length = k) := hl
    have z4 := j.t.size
    replace q0 := q0.touch j.t (by omega)
    replace q6 := q6.touch j.t (by omega)
    replace hB := hB.off j.t (fun b o e hs => by have := lb b o e; omega)
    replace hG := hG.off j.t (fun b o e hs => by have := lg b o e; omega)
    replace T2 := T2.trans j.t
    have g0 := q6.cell 0
    have g1 := q6.cell 1
    simp only [List.getElem?_cons_zero, List.getElem?_cons_succ] at g0 g1
    obtain ⟨vad, vcap, rfl⟩ := own_slice j.o
    rw [hl] at j
    rw [hl]
    clear hl
    by_cases hlt : k < gn
    · have hlt' : (k : Int) < (gn : Int) := by omega
      have hvb := fun x hx => ((j.o.lt x hx).2 : x < wr.heap.size)
      go_wp2_with fail
      refine (added_gen R a n' cap2 bs' q' 16 _ j.r (by omega) (by omega) (by omega) (by omega) j.r.ha).mono ?_
      rintro e w5 ⟨ea, en, ec, E, q5, rfl, d5⟩
      have y0 := d5.q0
      have y1 := d5.q1
      have ehi := d5.hi
      have s5 := d5.t.size
      have sa : IvP (fun b => wr.heap.size ≤ b ∧ b < w5.heap.size) w5 ⟨ea, en, ec, E⟩ := ⟨d5.i, d5.h4, fun b o e => ⟨d5.lo b o e, ehi b o e⟩⟩
      replace j := j.pick d5.t d5.r
      clear d5
      have al := (Below.refl w5.heap.size w5).alloc (Nat.le_refl _) (.cells #[.slice ea en ec] 26)
      have SZ : ∀ i, i < ss.length → IvP (fun b => b < w5.heap.size) (w5.alloc (.cells #[.slice ea en ec] 26)) (ss[i]?.getD noI) := fun i hi => ((j.ac i hi).mono (fun b hb => hb.2.1)).below al
      have ja := j.below al
      have hsa := (sa.below al).mono (P' := fun b => w3.heap.size ≤ b ∧ b < w5.heap.size ∧ (Value.slice vad k vcap).ownBlock ≠ some b) (fun b hb => ⟨by omega, hb.2, fun e2 => by have := hvb b e2; omega⟩)
      have hszA := ja.t.size
      clear al j sa g0 g1 q0 q6 hB hG T2
      go_wp2_with (at_builtin; refine wpList_append_lies _ rfl (.tmp 21) (.tmp 24) 46 rfl w3.heap.size 26 i0 _ 1 24 Try.underlying46 hi hz0 hz1 hz2 rfl (by omega) (.slice vad k vcap) k (ss.map IV.v) (by rfl) (by have h := ja.o; rw [HK.out] at h; exact h) ⟨w5.heap.size, 0, none⟩ 1 1 [.slice ea en ec] (by rfl) (by rfl) (World.news_of_block (cs := #[.slice ea en ec]) (t := 26) (fr := (0, 0)) (heap_alloc_new w5 _)) (by simp [Value.oneCell']) (by omega) (by unfold maxLen; omega) (by omega) hszA (w5.heap.size + 1) (by rw [World.size_alloc]) ?_)
      intro g9 cp9 w9 hown hgrow hat _
      have jn := ja.app (s := ⟨ea, en, ec, E⟩) (H := w5.heap.size) HK.out hsa (by rw [World.size_alloc]; omega) SZ hown hgrow (by rcases hat with h | h; exact .inl h; exact .inr (by omega))
      clear hown hgrow ja hsa SZ
      go_wp2
      go_roundw
      case rel => exact ⟨k + 1, ss ++ [⟨ea, en, ec, E⟩], q5, by omega, by go_num, by rw [List.length_append, HK.out]; rfl, by omega, by omega, jn⟩
      case measure => simp [intOf]; omega
    · obtain rfl : k = gn := by omega
      have hlt' : ¬ (k : Int) < (k : Int) := by omega
      clear hlt
      go_wp2_with fail
      refine (pick_any R a n' cap2 bs' q' 12 _ j.r (by omega) (by omega) (by omega) (by omega)).mono ?_
      rintro e w5 ⟨u, u2, u3, rfl, t5, R5⟩
      replace j := j.pick t5 R5
      have z5 := t5.size
      replace q0 := q0.touch t5 (by omega)
      replace q6 := q6.touch t5 (by omega)
      replace hB := hB.off t5 (fun b o e hs => by have := lb b o e; omega)
      replace hG := hG.off t5 (fun b o e hs => by have := lg b o e; omega)
      replace T2 := T2.trans t5
      clear t5 R5 g0 g1
      by_cases hu : u = 0
      · obtain rfl : u = 0 := by omega
        have hvb := fun x hx => ((j.o.lt x hx).2 : x < w5.heap.size)
        have al2 := (Below.refl w5.heap.size w5).alloc (Nat.le_refl _) (.cells #[.int .i64 0, .int .i64 0, .int .i64 0] 3)
        have c2 := Cel.new w5 [.int .i64 0, .int .i64 0, .int .i64 0] 3
        obtain ⟨W5, hW5⟩ : ∃ W, W = w5.alloc (.cells #[.int .i64 0, .int .i64 0, .int .i64 0] 3) := ⟨_, rfl⟩
        have hz5 : W5.heap.size = w5.heap.size + 1 := by rw [hW5, World.size_alloc]
        rw [← hW5] at al2 c2
        have HZ5 : Hid (W5.heap.size = w5.heap.size + 1) := hz5
        have hz6 : w5.heap.size + 1 ≤ W5.heap.size := by omega
        clear hz5
        have sa : IvP (fun b => w5.heap.size ≤ b ∧ b < W5.heap.size) W5 ⟨some ⟨w5.heap.size, 0, none⟩, 3, 3, [0, 0, 0]⟩ := ⟨three_zz c2, by show 3 ≤ 4; omega, fun b o e => by (have e' : (some ⟨w5.heap.size, 0, none⟩ : Option Addr) = some ⟨b, o, none⟩ := e; simp only [Option.some.injEq, Addr.mk.injEq] at e'; omega)⟩
        replace j := j.below al2
        have al := (Below.refl W5.heap.size W5).alloc (Nat.le_refl _) (.cells #[.slice (some ⟨w5.heap.size, 0, none⟩) 3 3] 26)
        have SZ : ∀ i, i < ss.length → IvP (fun b => b < W5.heap.size) (W5.alloc (.cells #[.slice (some ⟨w5.heap.size, 0, none⟩) 3 3] 26)) (ss[i]?.getD noI) := fun i hi => ((j.ac i hi).mono (fun b hb => hb.2.1)).below al
        have ja := j.below al
        have hsa := (sa.below al).mono (P' := fun b => w3.heap.size ≤ b ∧ b < W5.heap.size ∧ (Value.slice vad k vcap).ownBlock ≠ some b) (fun b hb => ⟨by omega, hb.2, fun e2 => by have := hvb b e2; omega⟩)
        have hszA := ja.t.size
        have hg0 := heap_alloc_new W5 (.cells #[.slice (some ⟨w5.heap.size, 0, none⟩) 3 3] 26)
        have hob := fun x hx => ((ja.o.lt x hx).1 : w3.heap.size ≤ x)
        have oo : (W5.alloc (.cells #[.slice (some ⟨w5.heap.size, 0, none⟩) 3 3] 26)).ownsRow w3.heap.size 26 1 (.slice vad k vcap) k (ss.map IV.v) := by have h := ja.o; rw [HK.out] at h; exact h
        rw [HZ5.out] at hg0
        rw [hW5] at hg0 oo hszA
        go_wp2_with (at_builtin; refine wpList_append_lies _ rfl (.tmp 29) (.tmp 31) 46 rfl w3.heap.size 26 i0 _ 1 24 Try.underlying46 hi hz0 hz1 hz2 rfl (by omega) (.slice vad k vcap) k (ss.map IV.v) (by rfl) oo ⟨w5.heap.size + 1, 0, none⟩ 1 1 [.slice (some ⟨w5.heap.size, 0, none⟩) 3 3] (by rfl) (by rfl) (World.news_of_block (cs := #[.slice (some ⟨w5.heap.size, 0, none⟩) 3 3]) (t := 26) (fr := (0, 0)) hg0) (by simp [Value.oneCell']) (by omega) (by unfold maxLen; omega) (by omega) hszA (w5.heap.size + 1 + 1) (by simp only [World.size_alloc]) ?_)
        intro g9 c9 w6 hown hgrow hat9 _
        rw [← hW5] at hgrow
        have Tg : Touch (fun x => (Value.slice vad k vcap).ownBlock = some x) (W5.alloc (.cells #[.slice (some ⟨w5.heap.size, 0, none⟩) 3 3] 26)) w6 := ⟨hgrow.os, hgrow.tape, hgrow.output, hgrow.size, fun z hz hn => hgrow.block z hz (fun e => hn e.symm)⟩
        have jn := ja.app (s := ⟨some ⟨w5.heap.size, 0, none⟩, 3, 3, [0, 0, 0]⟩) (H := W5.heap.size) HK.out hsa (by rw [World.size_alloc]; omega) SZ hown hgrow (by rcases hat9 with h | h; exact .inl h; exact .inr (by have := HZ5.out; omega))
        replace q0 := ((q0.below al2).below al).touch Tg (fun e => by have := hob _ e; omega)
        replace q6 := ((q6.below al2).below al).touch Tg (fun e => by have := hob _ e; omega)
        replace hB := ((hB.below al2).below al).offN Tg (fun h0 b o e hs => by have := lbx h0 b o e; have := hob _ hs; omega)
        replace hG := ((hG.below al2).below al).offN Tg (fun h0 b o e hs => by have := lgx h0 b o e; have := hob _ hs; omega)
        replace T2 := ((T2.trans (Touch.of al2)).trans (Touch.of al)).grown hgrow (fun z hz => by have := hob _ hz; omega)
        clear hown hgrow Tg al2 al ja j oo hg0 hW5 c2 hsa sa SZ hat9 HZ5 hob
        have P := jn.lo (by rw [List.length_append, HK.out]; rfl) (fun x => x = R ∨ x = w.heap.size) (fun y hy => by omega)
        have r6 := jn.r
        clear jn
        go_upto_region 10 with fail
        refine wp_region_ends (fun Y => Y.cell? ⟨X, 0, none⟩ = some (.slice ba bn bc) ∧ Y.cell? ⟨X, 1, none⟩ = some (.slice ga k gc)) (fun _ => True) 8 (by kernel_rfl) ?_
        have dr : Below w6.heap.size w6 w6.drew := (Below.refl _ _).drew
        replace q0 := q0.below dr
        replace q6 := q6.below dr
        replace hB := hB.below dr
        replace hG := hG.below dr
        replace T2 := T2.trans (Touch.of dr)
        replace P := P.below dr
        replace r6 := r6.below dr
        clear dr
        obtain ⟨V, hV⟩ : ∃ V, V = w6.drew := ⟨_, rfl⟩
        rw [← hV]
        rw [← hV] at q0 q6 hB hG T2 P r6
        clear hV
        have hSS : (fun Y : World => Y.cell? ⟨X, 0, none⟩ = some (.slice ba bn bc) ∧ Y.cell? ⟨X, 1, none⟩ = some (.slice ga k gc)) V ∧ True := ⟨⟨q6.cell 0, q6.cell 1⟩, trivial⟩
        refine tkL (i := 0) rfl hSS ?_
        refine tkL (i := 1) rfl hSS ?_
        refine tkL (i := 4) rfl hSS ?_
        clear hSS
        refine wpAnyE_one (i := 2) (by kernel_rfl) rfl (fun Kn hK => ?_)
        go_simp
        refine (acts_f R a n' cap2 bs' (q' + 1) _ r6 (by omega) (by omega) r6.ha).mono ?_
        rintro e w7 ⟨ad7, N7, c7, s7, q7, rfl, j7, hN7, hN1, hN4, y0, y1⟩
        have HC : Hid (catB N7 s7 = true) := j7.cat hN7 hN1 hN4
        have HN : Hid (s7.length = N7) := hN7
        have T7 := j7.t
        have z7 := T7.size
        have zV := T2.size
        have hL := j7.lsg hN7
        replace q0 := q0.touch T7 (by omega)
        replace q6 := q6.touch T7 (by omega)
        replace hB := hB.off T7 (fun b o e hs => by have := lb b o e; omega)
        replace hG := hG.off T7 (fun b o e hs => by have := lg b o e; omega)
        replace P := P.touch T7 (fun x hx => .inl hx)
        replace T2 := T2.trans T7
        have rc7 := j7.r.c
        clear j7 hN7 r6
        (try dsimp only)
        refine hK.out _ _ ⟨⟨q6.cell 0, q6.cell 1⟩, fun _ => trivial⟩ ?_
        clear hK
        refine wpAnyE_one (i := 3) (by kernel_rfl) rfl (fun Kn hK => ?_)
        go_simp
        refine (sforms_jp _ _ _ s7 _ HN.out hL (by omega) HC.out).mono ?_
        rintro e w8 ⟨G0, cG, ts, nt, rfl, hl, jp, _, hnt⟩
        have HL : Hid (ts.length = nt) := hl
        replace q0 := q0.below jp.b
        replace q6 := q6.below jp.b
        replace hB := hB.below jp.b
        replace hG := hG.below jp.b
        replace P := P.below jp.b
        replace rc7 := rc7.below jp.b
        replace T2 := T2.trans (Touch.of jp.b)
        have z8 := jp.b.size
        have PT := jp.old.pt (S := fun x => x = R ∨ x = w.heap.size) (fun y hy => by omega) (fun y hy => by rcases hy with rfl | rfl; exact ⟨_, _, _, rc7⟩; exact ⟨_, _, _, q0⟩)
        clear jp hl hL rc7
        (try dsimp only)
        refine hK.out _ _ ⟨⟨q6.cell 0, q6.cell 1⟩, fun _ => trivial⟩ ?_
        clear hK
        have BB : Below w.heap.size w w8 := (al.trans (b1.mono al.size)).trans (T2.below (by omega) (fun y hy => by omega))
        have g0 := q0.cell 0
        have g1 := q0.cell 1
        have h0 := q0.free 0
        have h1 := q0.free 1
        have l3 := q0.lt
        simp only [List.getElem?_cons_zero, List.getElem?_cons_succ] at g0 g1
        refine wpAnyE_one (i := 5) (by kernel_rfl) rfl (fun Kn hK => ?_)
        go_simp
        have q6a := (q6.setOther (B' := w.heap.size) (by omega) 0 (.slice ba bn bc)).setOther (B' := w.heap.size) (by omega) 1 (.slice ga k gc)
        have q0a := (q0.set 0 (.slice ba bn bc)).set 1 (.slice ga k gc)
        refine hK.out _ _ ⟨⟨q6a.cell 0, q6a.cell 1⟩, fun _ => trivial⟩ ?_
        clear hK
        refine wpAnyE_one (i := 6) (by kernel_rfl) rfl (fun Kn hK => ?_)
        go_simp
        refine hK.out _ _ ⟨⟨q6a.cell 0, q6a.cell 1⟩, fun _ => trivial⟩ ?_
        clear hK
        refine wpAnyE_one (i := 7) (by kernel_rfl) rfl (fun Kn hK => ?_)
        go_simp
        refine hK.out _ _ ⟨⟨q6a.cell 0, q6a.cell 1⟩, fun _ => trivial⟩ ?_
        clear hK
        refine wpAnyE_done (by kernel_rfl) ?_ _
        have e0 := q0a.cell 0
        have e1 := q0a.cell 1
        simp only [List.set_cons_succ, List.set_cons_zero, List.getElem?_cons_zero, List.getElem?_cons_succ] at e0 e1
        have TS : Touch (fun x => x = w.heap.size) w8 ((w8.setCell ⟨w.heap.size, 0, none⟩ (.slice ba bn bc)).setCell ⟨w.heap.size, 1, none⟩ (.slice ga k gc)) := Touch.setCell (S := fun x => x = w.heap.size) (Touch.setCell (S := fun x => x = w.heap.size) (Touch.refl _ _) rfl _) rfl _
        have BB9 : Below w.heap.size w ((w8.setCell ⟨w.heap.size, 0, none⟩ (.slice ba bn bc)).setCell ⟨w.heap.size, 1, none⟩ (.slice ga k gc)) := (BB.setCell (Nat.le_refl _) _).setCell (Nat.le_refl _) _
        have hB9 := hB.off TS (fun b o e hs => by have := lb b o e; omega)
        have hG9 := hG.off TS (fun b o e hs => by have := lg b o e; omega)
        have P9 := (P.touch TS (fun x hx => .inr hx)).g
        have PT9 := (PT.touch TS (fun x hx => .inr hx)).g
        clear hB hG P PT BB q0 q6 q0a q6a T2 T7 g0 g1 h0 h1
        obtain ⟨W9, hW9⟩ : ∃ W, W = (w8.setCell ⟨w.heap.size, 0, none⟩ (.slice ba bn bc)).setCell ⟨w.heap.size, 1, none⟩ (.slice ga k gc) := ⟨_, rfl⟩
        rw [← hW9]
        rw [← hW9] at e0 e1 BB9 hB9 hG9 P9 PT9
        clear hW9 TS
        go_wp2
        refine bodyPost_ret (v := .tuple #[treV ba bn bc ga k gc, .slice (some ⟨G0, 0, none⟩) nt cG, .slice (some ⟨g9, 0, none⟩) (k + 1) c9]) (by simp [results, Try.results28, go_sem, e0, e1]) rfl ⟨ba, bn, bc, ga, k, gc, B, G, _, nt, cG, ts, _, (k + 1), c9, (ss ++ [⟨some ⟨w5.heap.size, 0, none⟩, 3, 3, [0, 0, 0]⟩]), rfl, BB9, hB9, hG9, hbn, by omega, PT9, HL.out, hnt, P9, (by rw [List.length_append, HK.out]; rfl), by omega⟩
      · have hu' : (u == 0) = false := by simpa using hu
        have jn := j
        clear j
        have P := jn.lo HK.out (fun x => x = R ∨ x = w.heap.size) (fun y hy => by omega)
        have r6 := jn.r
        clear jn
        go_upto_region 10 with fail
        refine wp_region_ends (fun Y => Y.cell? ⟨X, 0, none⟩ = some (.slice ba bn bc) ∧ Y.cell? ⟨X, 1, none⟩ = some (.slice ga k gc)) (fun _ => True) 8 (by kernel_rfl) ?_
        have dr : Below w5.heap.size w5 w5.drew := (Below.refl _ _).drew
        replace q0 := q0.below dr
        replace q6 := q6.below dr
        replace hB := hB.below dr
        replace hG := hG.below dr
        replace T2 := T2.trans (Touch.of dr)
        replace P := P.below dr
        replace r6 := r6.below dr
        clear dr
        obtain ⟨V, hV⟩ : ∃ V, V = w5.drew := ⟨_, rfl⟩
        rw [← hV]
        rw [← hV] at q0 q6 hB hG T2 P r6
        clear hV
        have hSS : (fun Y : World => Y.cell? ⟨X, 0, none⟩ = some (.slice ba bn bc) ∧ Y.cell? ⟨X, 1, none⟩ = some (.slice ga k gc)) V ∧ True := ⟨⟨q6.cell 0, q6.cell 1⟩, trivial⟩
        refine tkL (i := 0) rfl hSS ?_
        refine tkL (i := 1) rfl hSS ?_
        refine tkL (i := 4) rfl hSS ?_
        clear hSS
        refine wpAnyE_one (i := 2) (by kernel_rfl) rfl (fun Kn hK => ?_)
        go_simp
        refine (acts_f R a n' cap2 bs' (q' + 1) _ r6 (by omega) (by omega) r6.ha).mono ?_
        rintro e w7 ⟨ad7, N7, c7, s7, q7, rfl, j7, hN7, hN1, hN4, y0, y1⟩
        have HC : Hid (catB N7 s7 = true) := j7.cat hN7 hN1 hN4
        have HN : Hid (s7.length = N7) := hN7
        have T7 := j7.t
        have z7 := T7.size
        have zV := T2.size
        have hL := j7.lsg hN7
        replace q0 := q0.touch T7 (by omega)
        replace q6 := q6.touch T7 (by omega)
        replace hB := hB.off T7 (fun b o e hs => by have := lb b o e; omega)
        replace hG := hG.off T7 (fun b o e hs => by have := lg b o e; omega)
        replace P := P.touch T7 (fun x hx => .inl hx)
        replace T2 := T2.trans T7
        have rc7 := j7.r.c
        clear j7 hN7 r6
        (try dsimp only)
        refine hK.out _ _ ⟨⟨q6.cell 0, q6.cell 1⟩, fun _ => trivial⟩ ?_
        clear hK
        refine wpAnyE_one (i := 3) (by kernel_rfl) rfl (fun Kn hK => ?_)
        go_simp
        refine (sforms_jp _ _ _ s7 _ HN.out hL (by omega) HC.out).mono ?_
        rintro e w8 ⟨G0, cG, ts, nt, rfl, hl, jp, _, hnt⟩
        have HL : Hid (ts.length = nt) := hl
        replace q0 := q0.below jp.b
        replace q6 := q6.below jp.b
        replace hB := hB.below jp.b
        replace hG := hG.below jp.b
        replace P := P.below jp.b
        replace rc7 := rc7.below jp.b
        replace T2 := T2.trans (Touch.of jp.b)
        have z8 := jp.b.size
        have PT := jp.old.pt (S := fun x => x = R ∨ x = w.heap.size) (fun y hy => by omega) (fun y hy => by rcases hy with rfl | rfl; exact ⟨_, _, _, rc7⟩; exact ⟨_, _, _, q0⟩)
        clear jp hl hL rc7
        (try dsimp only)
        refine hK.out _ _ ⟨⟨q6.cell 0, q6.cell 1⟩, fun _ => trivial⟩ ?_
        clear hK
        have BB : Below w.heap.size w w8 := (al.trans (b1.mono al.size)).trans (T2.below (by omega) (fun y hy => by omega))
        have g0 := q0.cell 0
        have g1 := q0.cell 1
        have h0 := q0.free 0
        have h1 := q0.free 1
        have l3 := q0.lt
        simp only [List.getElem?_cons_zero, List.getElem?_cons_succ] at g0 g1
        refine wpAnyE_one (i := 5) (by kernel_rfl) rfl (fun Kn hK => ?_)
        go_simp
        have q6a := (q6.setOther (B' := w.heap.size) (by omega) 0 (.slice ba bn bc)).setOther (B' := w.heap.size) (by omega) 1 (.slice ga k gc)
        have q0a := (q0.set 0 (.slice ba bn bc)).set 1 (.slice ga k gc)
        refine hK.out _ _ ⟨⟨q6a.cell 0, q6a.cell 1⟩, fun _ => trivial⟩ ?_
        clear hK
        refine wpAnyE_one (i := 6) (by kernel_rfl) rfl (fun Kn hK => ?_)
        go_simp
        refine hK.out _ _ ⟨⟨q6a.cell 0, q6a.cell 1⟩, fun _ => trivial⟩ ?_
        clear hK
        refine wpAnyE_one (i := 7) (by kernel_rfl) rfl (fun Kn hK => ?_)
        go_simp
        refine hK.out _ _ ⟨⟨q6a.cell 0, q6a.cell 1⟩, fun _ => trivial⟩ ?_
        clear hK
        refine wpAnyE_done (by kernel_rfl) ?_ _
        have e0 := q0a.cell 0
        have e1 := q0a.cell 1
        simp only [List.set_cons_succ, List.set_cons_zero, List.getElem?_cons_zero, List.getElem?_cons_succ] at e0 e1
        have TS : Touch (fun x => x = w.heap.size) w8 ((w8.setCell ⟨w.heap.size, 0, none⟩ (.slice ba bn bc)).setCell ⟨w.heap.size, 1, none⟩ (.slice ga k gc)) := Touch.setCell (S := fun x => x = w.heap.size) (Touch.setCell (S := fun x => x = w.heap.size) (Touch.refl _ _) rfl _) rfl _
        have BB9 : Below w.heap.size w ((w8.setCell ⟨w.heap.size, 0, none⟩ (.slice ba bn bc)).setCell ⟨w.heap.size, 1, none⟩ (.slice ga k gc)) := (BB.setCell (Nat.le_refl _) _).setCell (Nat.le_refl _) _
        have hB9 := hB.off TS (fun b o e hs => by have := lb b o e; omega)
        have hG9 := hG.off TS (fun b o e hs => by have := lg b o e; omega)
        have P9 := (P.touch TS (fun x hx => .inr hx)).g
        have PT9 := (PT.touch TS (fun x hx => .inr hx)).g
        clear hB hG P PT BB q0 q6 q0a q6a T2 T7 g0 g1 h0 h1
        obtain ⟨W9, hW9⟩ : ∃ W, W = (w8.setCell ⟨w.heap.size, 0, none⟩ (.slice ba bn bc)).setCell ⟨w.heap.size, 1, none⟩ (.slice ga k gc) := ⟨_, rfl⟩
        rw [← hW9]
        rw [← hW9] at e0 e1 BB9 hB9 hG9 P9 PT9
        clear hW9 TS
        go_wp2
        refine bodyPost_ret (v := .tuple #[treV ba bn bc ga k gc, .slice (some ⟨G0, 0, none⟩) nt cG, .slice vad k vcap]) (by simp [results, Try.results28, go_sem, e0, e1]) rfl ⟨ba, bn, bc, ga, k, gc, B, G, _, nt, cG, ts, _, k, vcap, ss, rfl, BB9, hB9, hG9, hbn, by omega, PT9, HL.out, hnt, P9, HK.out, by omega⟩

end Go.Proofs.Ytpnldfembbfgdaa
namespace Go.Proofs.Ytpnldfembbfgdaa
open Go.RowKit
set_option linter.unusedVariables false

/-- A treaty is ok. -/
def trtB (n m : Nat) (C D : List Int) : Bool := okN 3 10000 n C && (inB m 1 3 && betB 0 50 D)

set_option maxHeartbeats 800000 in
theorem strt_any (a : Option Addr) (n cap : Nat) (c : Option Addr) (m cap' : Nat) (C D : List Int) (w : World) (hC : Ints w a n C) (hD : Ints w c m D) (hn : n ≤ 1048576) (hm : m ≤ 1048576) :
    Calls Try.prog 27 #[treV a n cap c m cap'] w fun e w' => e = .returned (.bool (trtB n m C D)) ∧ Below w.heap.size w w' := by
  have HD : Hid (D.length = m) := hD.1
  cases h1 : okN 3 10000 n C
  · go_enter Try.func27, Try.ntmps27
    go_wp2_with fail
    refine (sval_any _ _ _ C _ (hC.alloc _) hn).mono ?_
    rintro e w1 ⟨rfl, rfl⟩
    go_wp2
    go_ret
    exact ⟨ret_bool (by simp [trtB, h1]), (Below.refl _ _).alloc (Nat.le_refl _) _⟩
  · cases h2 : inB m 1 3
    · go_enter Try.func27, Try.ntmps27
      go_wp2_with fail
      refine (sval_any _ _ _ C _ (hC.alloc _) hn).mono ?_
      rintro e w1 ⟨rfl, rfl⟩
      go_wp2_with fail
      refine (in_any _ _ _ _).mono ?_
      rintro e w1 ⟨rfl, rfl⟩
      go_wp2
      go_ret
      exact ⟨ret_bool (by simp [trtB, h2]), (Below.refl _ _).alloc (Nat.le_refl _) _⟩
    · go_enter Try.func27, Try.ntmps27
      go_wp2_with fail
      refine (sval_any _ _ _ C _ (hC.alloc _) hn).mono ?_
      rintro e w1 ⟨rfl, rfl⟩
      go_wp2_with fail
      refine (in_any _ _ _ _).mono ?_
      rintro e w1 ⟨rfl, rfl⟩
      go_wp2_with fail
      go_loop [3] (fun i => ∃ k : Nat, k ≤ m ∧ i = .int .i64 k ∧ betB 0 50 (D.take k) = true) (fun i => m - (intOf i).toNat)
      case atStart => exact ⟨0, Nat.zero_le _, rfl, rfl⟩
      case round =>
        obtain ⟨k, hk, rfl, hall⟩ := hrel
        have HA : Hid (betB 0 50 (D.take k) = true) := hall
        clear hall
        by_cases hlt : k < m
        · obtain ⟨b, off, rfl, hcell⟩ := (hD.alloc (.cells #[.slice a n cap, .slice c m cap'] 45 (0, 0))).pos (by omega)
          have hck := hcell k hlt
          clear hcell hC hD
          cases hin : inB (D[k]?.getD 0) 0 50
          · go_wp2_with fail
            refine (in_any _ _ _ _).mono ?_
            rintro e w1 ⟨rfl, rfl⟩
            go_wp2
            go_ret
            exact ⟨ret_bool (by rw [trtB, betB_false (by rw [HD.out]; exact hlt) hin]; simp), (Below.refl _ _).alloc (Nat.le_refl _) _⟩
          · go_wp2_with fail
            refine (in_any _ _ _ _).mono ?_
            rintro e w1 ⟨rfl, rfl⟩
            go_wp2
            go_round
            case rel => exact ⟨k + 1, by omega, by go_num, betB_step (by rw [HD.out]; exact hlt) HA.out hin⟩
            case measure => simp [intOf]; omega
        · go_wp2
          go_ret
          exact ⟨ret_bool (by rw [trtB, h1, h2, betB_end (by rw [HD.out]; omega) HA.out]; rfl), (Below.refl _ _).alloc (Nat.le_refl _) _⟩

set_option maxHeartbeats 800000 in
theorem itrt_any (a : Option Addr) (n cap : Nat) (c : Option Addr) (m cap' : Nat) (C D : List Int) (w : World) (hC : Ints w a n C) (hD : Ints w c m D) (hn : n ≤ 1048576) (hm : m ≤ 1048576) :
    Calls Try.prog 26 #[treV a n cap c m cap'] w fun e w' => e = .returned (.bool (trtB n m C D)) ∧ Below w.heap.size w w' := by
  cases h1 : okN 3 10000 n C
  · go_enter Try.func26, Try.ntmps26
    go_wp2_with fail
    refine (ival_any _ _ _ C _ (hC.alloc _) hn).mono ?_
    rintro e w1 ⟨rfl, rfl⟩
    go_wp2
    go_ret
    exact ⟨ret_bool (by simp [trtB, h1]), (Below.refl _ _).alloc (Nat.le_refl _) _⟩
  · by_cases h2 : 1 ≤ m
    · by_cases h3 : m ≤ 3
      · have h4 : inB m 1 3 = true := inB_iff.2 ⟨by omega, by omega⟩
        have H4 : Hid _ := h4
        clear h4
        go_enter Try.func26, Try.ntmps26
        go_wp2_with fail
        refine (ival_any _ _ _ C _ (hC.alloc _) hn).mono ?_
        rintro e w1 ⟨rfl, rfl⟩
        go_wp2_with fail
        refine (between_any _ _ _ D _ _ _ (hD.alloc _) hm).mono ?_
        rintro e w1 ⟨rfl, rfl⟩
        go_wp2
        go_ret
        exact ⟨ret_bool (by rw [trtB, h1, H4.out]; rfl), (Below.refl _ _).alloc (Nat.le_refl _) _⟩
      · have h4 : inB m 1 3 = false := inB_not.2 (by omega)
        have H4 : Hid _ := h4
        clear h4
        go_enter Try.func26, Try.ntmps26
        go_wp2_with fail
        refine (ival_any _ _ _ C _ (hC.alloc _) hn).mono ?_
        rintro e w1 ⟨rfl, rfl⟩
        go_wp2
        go_ret
        exact ⟨ret_bool (by rw [trtB, H4.out]; simp), (Below.refl _ _).alloc (Nat.le_refl _) _⟩
    · have h4 : inB m 1 3 = false := inB_not.2 (by omega)
      have H4 : Hid _ := h4
      clear h4
      go_enter Try.func26, Try.ntmps26
      go_wp2_with fail
      refine (ival_any _ _ _ C _ (hC.alloc _) hn).mono ?_
      rintro e w1 ⟨rfl, rfl⟩
      go_wp2
      go_ret
      exact ⟨ret_bool (by rw [trtB, H4.out]; simp), (Below.refl _ _).alloc (Nat.le_refl _) _⟩

/-- What the first k sites but one may. -/
def others (D : List Int) (s : Int) : Nat → Int
  | 0 => 0
  | k + 1 => if (k : Int) = s then others D s k else wrap64 (others D s k + D[k]?.getD 0)

set_option maxHeartbeats 800000 in
theorem sothers_any (a : Option Addr) (n cap : Nat) (c : Option Addr) (m cap' : Nat) (D : List Int) (s : Int) (w : World) (hD : Ints w c m D) (hm : m ≤ 1048576) :
    Calls Try.prog 75 #[treV a n cap c m cap', .int .i64 s] w fun e w' => e = .returned (.int .i64 (others D s m)) ∧ Below w.heap.size w w' := by
  go_enter Try.func75, Try.ntmps75
  go_wp2_with fail
  go_loop [5, 6] (fun x i => ∃ k : Nat, k ≤ m ∧ i = .int .i64 k ∧ x = .int .i64 (others D s k)) (fun _ i => m - (intOf i).toNat)
  case atStart => exact ⟨0, Nat.zero_le _, rfl, rfl⟩
  case round =>
    obtain ⟨k, hk, rfl, rfl⟩ := hrel
    by_cases hlt : k < m
    · obtain ⟨b, off, rfl, hcell⟩ := (hD.alloc (.cells #[.slice a n cap, .slice c m cap'] 45 (0, 0))).pos (by omega)
      have hck := hcell k hlt
      clear hcell hD
      have HO : Hid (others D s (k + 1) = if (k : Int) = s then others D s k else wrap64 (others D s k + D[k]?.getD 0)) := rfl
      obtain ⟨y, hy⟩ : ∃ y, y = others D s k := ⟨_, rfl⟩
      rw [← hy] at HO
      rw [← hy]
      clear hy
      by_cases hs : (k : Int) = s
      · have hs' : ((k : Int) != s) = false := by simp [hs]
        have HS : Hid ((k : Int) = s) := hs
        clear hs
        go_wp2
        go_round
        case rel => exact ⟨k + 1, by omega, by go_num, by rw [HO.out, if_pos HS.out]⟩
        case measure => simp [intOf]; omega
      · have hs' : ((k : Int) != s) = true := by simp [hs]
        have HS : Hid (¬ (k : Int) = s) := hs
        clear hs
        go_wp2
        go_round
        case rel => exact ⟨k + 1, by omega, by go_num, by rw [HO.out, if_neg HS.out]⟩
        case measure => simp [intOf]; omega
    · obtain rfl : k = m := by omega
      go_wp2
      go_ret
      exact ⟨rfl, (Below.refl _ _).alloc (Nat.le_refl _) _⟩

set_option maxHeartbeats 800000 in
theorem iothers_any (a : Option Addr) (n cap : Nat) (c : Option Addr) (m cap' : Nat) (D : List Int) (s : Int) (w : World) (hD : Ints w c m D) (hm : m ≤ 1048576) :
    Calls Try.prog 91 #[treV a n cap c m cap', .int .i64 s] w fun e w' => e = .returned (.int .i64 (others D s m)) ∧ Below w.heap.size w w' := by
  go_enter Try.func91, Try.ntmps91
  go_wp2_with fail
  go_loop [5, 6, 7, 11] (fun x _ _ i => ∃ k : Nat, k ≤ m ∧ i = .int .i64 k ∧ x = .int .i64 (others D s k)) (fun _ _ _ i => m - (intOf i).toNat)
  case atStart => exact ⟨0, Nat.zero_le _, rfl, rfl⟩
  case round =>
    obtain ⟨k, hk, rfl, rfl⟩ := hrel
    by_cases hlt : k < m
    · obtain ⟨b, off, rfl, hcell⟩ := (hD.alloc (.cells #[.slice a n cap, .slice c m cap'] 45 (0, 0))).pos (by omega)
      have hck := hcell k hlt
      clear hcell hD
      have HO : Hid (others D s (k + 1) = if (k : Int) = s then others D s k else wrap64 (others D s k + D[k]?.getD 0)) := rfl
      obtain ⟨y, hy⟩ : ∃ y, y = others D s k := ⟨_, rfl⟩
      rw [← hy] at HO
      rw [← hy]
      clear hy
      by_cases hs : (k : Int) = s
      · have hs' : ((k : Int) != s) = false := by simp [hs]
        have HS : Hid ((k : Int) = s) := hs
        clear hs
        go_wp2
        go_round
        case rel => exact ⟨k + 1, by omega, by go_num, by rw [HO.out, if_pos HS.out]⟩
        case measure => simp [intOf]; omega
      · have hs' : ((k : Int) != s) = true := by simp [hs]
        have HS : Hid (¬ (k : Int) = s) := hs
        clear hs
        go_wp2
        go_round
        case rel => exact ⟨k + 1, by omega, by go_num, by rw [HO.out, if_neg HS.out]⟩
        case measure => simp [intOf]; omega
    · obtain rfl : k = m := by omega
      go_wp2
      go_ret
      exact ⟨rfl, (Below.refl _ _).alloc (Nat.le_refl _) _⟩

/-- Parts are ok. -/
def partsB (ss : List IV) : Bool := ss.all fun s => okN 3 10000000 s.n s.x
theorem partsB_step {ss : List IV} {k : Nat} (h : k < ss.length) (h1 : partsB (ss.take k) = true) (h2 : okN 3 10000000 (ss[k]?.getD noI).n (ss[k]?.getD noI).x = true) : partsB (ss.take (k + 1)) = true := by
  unfold partsB at *
  rw [List.take_succ_eq_append_getElem h, List.all_append, h1]
  rw [List.getElem?_eq_getElem h] at h2
  simpa using h2
theorem partsB_end {ss : List IV} {k : Nat} (h : ss.length ≤ k) (h1 : partsB (ss.take k) = true) : partsB ss = true := by
  rwa [List.take_of_length_le h] at h1
theorem partsB_false {ss : List IV} {k : Nat} (h : k < ss.length) (hn : okN 3 10000000 (ss[k]?.getD noI).n (ss[k]?.getD noI).x = false) : partsB ss = false := by
  unfold partsB
  rw [List.all_eq_false]
  refine ⟨ss[k], List.getElem_mem h, ?_⟩
  rw [List.getElem?_eq_getElem h] at hn
  simpa using hn
theorem partsB_at {ss : List IV} {k : Nat} (h : k < ss.length) (hp : partsB ss = true) : okN 3 10000000 (ss[k]?.getD noI).n (ss[k]?.getD noI).x = true := by
  cases hn : okN 3 10000000 (ss[k]?.getD noI).n (ss[k]?.getD noI).x
  · rw [partsB_false h hn] at hp; cases hp
  · rfl

set_option maxHeartbeats 800000 in
theorem sparts_any (ad : Option Addr) (N cap : Nat) (ss : List IV) (w : World) (hN : ss.length = N) (hF : ISG w ad ss) (hN1 : N ≤ 1048576) :
    Calls Try.prog 61 #[.slice ad N cap] w fun e w' => e = .returned (.bool (partsB ss)) ∧ w' = w := by
  have HN : Hid (ss.length = N) := hN
  clear hN
  go_enter Try.func61, Try.ntmps61
  go_wp2_with fail
  go_loop [3] (fun i => ∃ k : Nat, k ≤ N ∧ i = .int .i64 k ∧ partsB (ss.take k) = true) (fun i => N - (intOf i).toNat)
  case atStart => exact ⟨0, Nat.zero_le _, rfl, rfl⟩
  case round =>
    obtain ⟨k, hk, rfl, hall⟩ := hrel
    have HA : Hid _ := hall
    clear hall
    by_cases hlt : k < N
    · obtain ⟨b, off, rfl, hc, hr⟩ := hF k (by rw [HN.out]; exact hlt)
      have H1 : Hid _ := partsB_step (ss := ss) (k := k) (by rw [HN.out]; exact hlt) HA.out
      have H2 : Hid _ := partsB_false (ss := ss) (k := k) (by rw [HN.out]; exact hlt)
      generalize HG : ss[k]?.getD noI = g at *
      clear HG hF HA
      obtain ⟨ga, gn, gcap, gx⟩ := g
      have hc' : w.cell? ⟨b, off + k, none⟩ = some (.slice ga gn gcap) := hc
      clear hc
      cases he : okN 3 10000000 gn gx
      · go_wp2_with fail
        refine (all_any _ _ _ gx _ _ _ hr.1 hr.2 (by omega) (by omega)).mono ?_
        rintro e w1 ⟨rfl, rfl⟩
        rw [he]
        go_wp2
        go_ret
        exact ⟨ret_bool (by rw [H2.out he]), rfl⟩
      · go_wp2_with fail
        refine (all_any _ _ _ gx _ _ _ hr.1 hr.2 (by omega) (by omega)).mono ?_
        rintro e w1 ⟨rfl, rfl⟩
        rw [he]
        go_wp2
        go_round
        case rel => exact ⟨k + 1, by omega, by go_num, H1.out he⟩
        case measure => simp [intOf]; omega
    · go_wp2
      go_ret
      exact ⟨ret_bool (by rw [partsB_end (by rw [HN.out]; omega) HA.out]), rfl⟩

set_option maxHeartbeats 800000 in
theorem iparts_any (ad : Option Addr) (N cap : Nat) (ss : List IV) (w : World) (hN : ss.length = N) (hF : ISG w ad ss) (hN1 : N ≤ 1048576) :
    Calls Try.prog 82 #[.slice ad N cap] w fun e w' => e = .returned (.bool (partsB ss)) ∧ w' = w := by
  have HN : Hid (ss.length = N) := hN
  clear hN
  go_enter Try.func82, Try.ntmps82
  go_wp2_with fail
  go_loop [4, 7] (fun _ i => ∃ k : Nat, k ≤ N ∧ i = .int .i64 k ∧ partsB (ss.take k) = true) (fun _ i => N - (intOf i).toNat)
  case atStart => exact ⟨0, Nat.zero_le _, rfl, rfl⟩
  case round =>
    obtain ⟨k, hk, rfl, hall⟩ := hrel
    have HA : Hid _ := hall
    clear hall
    by_cases hlt : k < N
    · obtain ⟨b, off, rfl, hc, hr⟩ := hF k (by rw [HN.out]; exact hlt)
      have H1 : Hid _ := partsB_step (ss := ss) (k := k) (by rw [HN.out]; exact hlt) HA.out
      have H2 : Hid _ := partsB_false (ss := ss) (k := k) (by rw [HN.out]; exact hlt)
      generalize HG : ss[k]?.getD noI = g at *
      clear HG hF HA
      obtain ⟨ga, gn, gcap, gx⟩ := g
      have hc' : w.cell? ⟨b, off + k, none⟩ = some (.slice ga gn gcap) := hc
      clear hc
      by_cases hn3 : (gn : Int) = 3
      · have hn3' : ((gn : Int) != 3) = false := by simp [hn3]
        have H3 : Hid ((gn : Int) = 3) := hn3
        clear hn3
        cases he : allB 10000000 gx
        · go_wp2_with fail
          refine (within_any _ _ _ gx _ _ hr.1 hr.2 (by omega) (by omega)).mono ?_
          rintro e w1 ⟨rfl, rfl⟩
          rw [he]
          go_wp2
          go_ret
          exact ⟨ret_bool (by rw [H2.out (by rw [okN_is H3.out, he])]), rfl⟩
        · go_wp2_with fail
          refine (within_any _ _ _ gx _ _ hr.1 hr.2 (by omega) (by omega)).mono ?_
          rintro e w1 ⟨rfl, rfl⟩
          rw [he]
          go_wp2
          go_round
          case rel => exact ⟨k + 1, by omega, by go_num, H1.out (by rw [okN_is H3.out, he])⟩
          case measure => simp [intOf]; omega
      · have hn3' : ((gn : Int) != 3) = true := by simp [hn3]
        have H3 : Hid (¬ (gn : Int) = 3) := hn3
        clear hn3
        go_wp2
        go_ret
        exact ⟨ret_bool (by rw [H2.out (okN_not H3.out)]), rfl⟩
    · go_wp2
      go_ret
      exact ⟨ret_bool (by rw [partsB_end (by rw [HN.out]; omega) HA.out]), rfl⟩

theorem imay_any (a : Option Addr) (n cap : Nat) (zs : List Int) (w : World) (h : Ints w a n zs) (hn : n ≤ 1048576) :
    Calls Try.prog 84 #[.slice a n cap] w fun e w' => e = .returned (.bool (okN 3 20000 n zs)) ∧ w' = w := by
  by_cases hc : (n : Int) = 3
  · have hc' : ((n : Int) == 3) = true := by simp [hc]
    have HC : Hid ((n : Int) = 3) := hc
    clear hc
    go_enter Try.func84, Try.ntmps84
    go_wp2_with fail
    refine (within_any _ _ _ zs _ _ h hn (by omega) (by omega)).mono ?_
    rintro e w' ⟨rfl, rfl⟩
    go_wp2
    go_ret
    exact ⟨ret_bool (by rw [okN_is HC.out]), rfl⟩
  · have hc' : ((n : Int) == 3) = false := by simpa using hc
    go_enter Try.func84, Try.ntmps84
    go_wp2
    go_ret
    exact ⟨ret_bool (by rw [okN_not hc]), rfl⟩

end Go.Proofs.Ytpnldfembbfgdaa
namespace Go.Proofs.Ytpnldfembbfgdaa
open Go.RowKit Go.Deep
set_option linter.unusedVariables false

set_option maxHeartbeats 800000 in
theorem times5_any (a c : Option Addr) (cap cap' : Nat) (xs ys : List Int) (P : Int) (w : World) (h : Ints w a 3 xs) (h' : Ints w c 3 ys) (hP : bndP P xs ys) (h0 : 0 ≤ P) (hb : P ≤ 1000000000000) :
    Calls Try.prog 64 #[.slice a 3 cap, .slice c 3 cap'] w fun e w' => e = .returned (.int .i64 (dot xs ys 3)) ∧ Below w.heap.size w w' := by
  have HP : Hid (bndP P xs ys) := hP
  clear hP
  go_enter Try.func64, Try.ntmps64
  go_wp2_with fail
  go_loopw [5, 6] (fun s i wr => ∃ k : Nat, k ≤ 3 ∧ i = .int .i64 k ∧ s = .int .i64 (dot xs ys k) ∧ Below w.heap.size w wr) (fun _ i _ => 3 - (intOf i).toNat)
  case atStart => exact ⟨0, by omega, rfl, rfl, Below.refl _ _⟩
  case round =>
    obtain ⟨k, hk, rfl, rfl, hb'⟩ := hrel
    by_cases hlt : k < 3
    · obtain ⟨b, off, rfl, hcell⟩ := (h.below hb').pos (by omega)
      obtain ⟨b', off', rfl, hcell'⟩ := (h'.below hb').pos (by omega)
      have hck := hcell k hlt
      have hck' := hcell' k hlt
      have hlt' : (k : Int) < 3 := by omega
      obtain ⟨p1, p2⟩ := HP.out k
      have d := dot_bnd HP.out k
      have kP : (k : Int) * P ≤ 1000 * P := Int.mul_le_mul_of_nonneg_right (by omega) h0
      have d1 : -1000000000000000 ≤ dot xs ys k := by omega
      have d2 : dot xs ys k ≤ 1000000000000000 := by omega
      have d3 : -1000000000000 ≤ xs[k]?.getD 0 * ys[k]?.getD 0 := by omega
      have d4 : xs[k]?.getD 0 * ys[k]?.getD 0 ≤ 1000000000000 := by omega
      clear hcell hcell' h h' d kP p1 p2 hb h0
      go_wp2_with fail
      go_quiet (fail)
      go_wp2
      go_roundw
      case rel => exact ⟨k + 1, by omega, by go_num, by simp only [dot], below_drewN hb' _⟩
      case measure => simp [intOf]; omega
    · obtain rfl : k = 3 := by omega
      go_wp2
      go_ret
      exact ⟨rfl, hb'⟩

/-- What a site knows is ok. -/
def viewB (n m : Nat) (C D : List Int) (ss : List IV) (s : Int) (k : Nat) (E : List Int) : Bool := trtB n m C D && (partsB ss && (inB s 0 ((m : Int) - 1) && okN 3 20000 k E))

/-- What is added keeps within what is given. -/
def keepsB (g : Int) (E : List Int) (ss : List IV) : Bool := ss.all fun p => inB (dot p.x E 3) (-g) g
theorem keepsB_step {g : Int} {E : List Int} {ss : List IV} {k : Nat} (h : k < ss.length) (h1 : keepsB g E (ss.take k) = true) (h2 : inB (dot (ss[k]?.getD noI).x E 3) (-g) g = true) : keepsB g E (ss.take (k + 1)) = true := by
  unfold keepsB at *
  rw [List.take_succ_eq_append_getElem h, List.all_append, h1]
  rw [List.getElem?_eq_getElem h] at h2
  simpa using h2
theorem keepsB_end {g : Int} {E : List Int} {ss : List IV} {k : Nat} (h : ss.length ≤ k) (h1 : keepsB g E (ss.take k) = true) : keepsB g E ss = true := by
  rwa [List.take_of_length_le h] at h1
theorem keepsB_false {g : Int} {E : List Int} {ss : List IV} {k : Nat} (h : k < ss.length) (hn : inB (dot (ss[k]?.getD noI).x E 3) (-g) g = false) : keepsB g E ss = false := by
  unfold keepsB
  rw [List.all_eq_false]
  refine ⟨ss[k], List.getElem_mem h, ?_⟩
  rw [List.getElem?_eq_getElem h] at hn
  simpa using hn

theorem viewB_elim {n m : Nat} {C D : List Int} {ss : List IV} {s : Int} {k : Nat} {E : List Int} (h : viewB n m C D ss s k E = true) :
    n = 3 ∧ bnd 10000 C ∧ 1 ≤ m ∧ m ≤ 3 ∧ partsB ss = true ∧ 0 ≤ s ∧ s < m ∧ k = 3 ∧ bnd 20000 E ∧ (∀ i : Nat, i < D.length → 0 ≤ D[i]?.getD 0 ∧ D[i]?.getD 0 ≤ 50) := by
  simp only [viewB, trtB, Bool.and_eq_true] at h
  obtain ⟨⟨h1, h2, h3⟩, h4, h5, h6⟩ := h
  have a := okN_elim (by omega) h1
  have b := okN_elim (by omega) h6
  have c := inB_iff.1 h2
  have d := inB_iff.1 h5
  refine ⟨by omega, a.2, by omega, by omega, h4, d.1, by omega, by omega, b.2, fun i hi => ?_⟩
  unfold betB at h3
  rw [List.all_eq_true] at h3
  have := inB_iff.1 (h3 D[i] (List.getElem_mem hi))
  rw [List.getElem?_eq_getElem hi]
  simpa using this

/-- Whether what a site has added keeps within a treaty. -/
def keepB (n m : Nat) (C D : List Int) (ss : List IV) (s : Int) (k : Nat) (E : List Int) : Bool := viewB n m C D ss s k E && keepsB (D[s.toNat]?.getD 0) E ss

theorem place_in (s : Int) (m : Nat) : decide (0 ≤ s ∧ s < (m : Int)) = inB s 0 ((m : Int) - 1) := by
  unfold inB
  apply decide_eq_decide.2
  omega

/-- What a site knows, as a value. -/
abbrev viewV (a : Option Addr) (n cap : Nat) (c : Option Addr) (m cap' : Nat) (ad : Option Addr) (N pc : Nat) (s : Int) (e : Option Addr) (k ec : Nat) (u : Option Addr) (l uc : Nat) : Value := .agg #[.slice a n cap, .slice c m cap', .slice ad N pc, .int .i64 s, .slice e k ec, .slice u l uc]

theorem Cel.sixK {w : World} {B : Nat} {v0 v1 v2 v3 v4 v5 : Value} {t : TypeId} (h : Cel w B [v0, v1, v2, v3, v4, v5] t) : w.cell? ⟨B, 0, none⟩ = some v0 ∧ w.cell? ⟨B, 1, none⟩ = some v1 ∧ w.cell? ⟨B, 2, none⟩ = some v2 ∧ w.cell? ⟨B, 3, none⟩ = some v3 ∧ w.cell? ⟨B, 4, none⟩ = some v4 ∧ w.cell? ⟨B, 5, none⟩ = some v5 := ⟨h.cell 0, h.cell 1, h.cell 2, h.cell 3, h.cell 4, h.cell 5⟩

set_option maxHeartbeats 1600000 in
theorem vok_any (a : Option Addr) (n cap : Nat) (c : Option Addr) (m cap' : Nat) (ad : Option Addr) (N pc : Nat) (s : Int) (e : Option Addr) (k ec : Nat) (u : Option Addr) (l uc : Nat) (C D E : List Int) (ss : List IV) (w : World)
    (hC : Ints w a n C) (hD : Ints w c m D) (hE : Ints w e k E) (hN : ss.length = N) (hF : ISG w ad ss) (hn : n ≤ 1048576) (hm : m ≤ 1048576) (hk : k ≤ 1048576) (hN1 : N ≤ 1048576) :
    Calls Try.prog 59 #[viewV a n cap c m cap' ad N pc s e k ec u l uc] w fun r w' => r = .returned (.bool (viewB n m C D ss s k E)) ∧ Below w.heap.size w w' := by
  have HN : Hid (ss.length = N) := hN
  clear hN
  have q0 := Cel.new w [.slice a n cap, .slice c m cap', .slice ad N pc, .int .i64 s, .slice e k ec, .slice u l uc] 81
  have b0 := (Below.refl w.heap.size w).alloc (Nat.le_refl _) (.cells #[.slice a n cap, .slice c m cap', .slice ad N pc, .int .i64 s, .slice e k ec, .slice u l uc] 81)
  cases h1 : trtB n m C D
  · go_enter Try.func59, Try.ntmps59
    go_wp2_with fail
    refine (itrt_any _ _ _ _ _ _ C D _ (hC.below b0) (hD.below b0) hn hm).mono ?_
    rintro r w1 ⟨rfl, b1⟩
    have B1 := b0.trans (b1.mono b0.size)
    rw [h1]
    go_wp2
    go_ret
    exact ⟨ret_bool (by simp [viewB, h1]), B1⟩
  · cases h2 : partsB ss
    · go_enter Try.func59, Try.ntmps59
      go_wp2_with fail
      refine (itrt_any _ _ _ _ _ _ C D _ (hC.below b0) (hD.below b0) hn hm).mono ?_
      rintro r w1 ⟨rfl, b1⟩
      have B1 := b0.trans (b1.mono b0.size)
      obtain ⟨c0, c1, c2, c3, c4, c5⟩ := (q0.below b1).sixK
      rw [h1]
      go_wp2_with fail
      refine (iparts_any _ _ _ ss _ HN.out (hF.below B1) hN1).mono ?_
      rintro r w2 ⟨rfl, rfl⟩
      rw [h2]
      go_wp2
      go_ret
      exact ⟨ret_bool (by simp [viewB, h2]), B1⟩
    · cases h3 : inB s 0 ((m : Int) - 1)
      · go_enter Try.func59, Try.ntmps59
        go_wp2_with fail
        refine (itrt_any _ _ _ _ _ _ C D _ (hC.below b0) (hD.below b0) hn hm).mono ?_
        rintro r w1 ⟨rfl, b1⟩
        have B1 := b0.trans (b1.mono b0.size)
        obtain ⟨c0, c1, c2, c3, c4, c5⟩ := (q0.below b1).sixK
        rw [h1]
        go_wp2_with fail
        refine (iparts_any _ _ _ ss _ HN.out (hF.below B1) hN1).mono ?_
        rintro r w2 ⟨rfl, rfl⟩
        rw [h2]
        go_wp2_with fail
        refine (place_any _ _ _).mono ?_
        rintro r w3 ⟨rfl, rfl⟩
        rw [place_in, h3]
        go_wp2
        go_ret
        exact ⟨ret_bool (by simp [viewB, h3]), B1⟩
      · go_enter Try.func59, Try.ntmps59
        go_wp2_with fail
        refine (itrt_any _ _ _ _ _ _ C D _ (hC.below b0) (hD.below b0) hn hm).mono ?_
        rintro r w1 ⟨rfl, b1⟩
        have B1 := b0.trans (b1.mono b0.size)
        obtain ⟨c0, c1, c2, c3, c4, c5⟩ := (q0.below b1).sixK
        rw [h1]
        go_wp2_with fail
        refine (iparts_any _ _ _ ss _ HN.out (hF.below B1) hN1).mono ?_
        rintro r w2 ⟨rfl, rfl⟩
        rw [h2]
        go_wp2_with fail
        refine (place_any _ _ _).mono ?_
        rintro r w3 ⟨rfl, rfl⟩
        rw [place_in, h3]
        go_wp2_with fail
        refine (imay_any _ _ _ E _ (hE.below B1) hk).mono ?_
        rintro r w4 ⟨rfl, rfl⟩
        go_wp2
        go_ret
        exact ⟨ret_bool (by simp [viewB, h1, h2, h3]), B1⟩

set_option maxHeartbeats 1600000 in
theorem vkeeps_any (a : Option Addr) (n cap : Nat) (c : Option Addr) (m cap' : Nat) (ad : Option Addr) (N pc : Nat) (s : Int) (e : Option Addr) (ec : Nat) (u : Option Addr) (l uc : Nat) (C D E : List Int) (ss : List IV) (w : World)
    (hD : Ints w c m D) (hE : Ints w e 3 E) (hN : ss.length = N) (hF : ISG w ad ss) (hN1 : N ≤ 1048576) (hm3 : m ≤ 3) (hs : 0 ≤ s) (hs' : s < m) (hp : partsB ss = true) (bE : bnd 20000 E) (bD : ∀ i : Nat, i < D.length → 0 ≤ D[i]?.getD 0 ∧ D[i]?.getD 0 ≤ 50) :
    Calls Try.prog 60 #[viewV a n cap c m cap' ad N pc s e 3 ec u l uc] w fun r w' => r = .returned (.bool (keepsB (D[s.toNat]?.getD 0) E ss)) ∧ Below w.heap.size w w' := by
  have HN : Hid (ss.length = N) := hN
  have HP : Hid (partsB ss = true) := hp
  clear hN hp
  have q0 := Cel.new w [.slice a n cap, .slice c m cap', .slice ad N pc, .int .i64 s, .slice e 3 ec, .slice u l uc] 81
  have b0 := (Below.refl w.heap.size w).alloc (Nat.le_refl _) (.cells #[.slice a n cap, .slice c m cap', .slice ad N pc, .int .i64 s, .slice e 3 ec, .slice u l uc] 81)
  obtain ⟨t, rfl⟩ : ∃ t : Nat, s = t := ⟨s.toNat, by omega⟩
  have ht : t < m := by omega
  have bg := bD t (by rw [hD.1]; exact ht)
  obtain ⟨b, off, rfl, hcell⟩ := (hD.below b0).pos (by omega)
  have hck := hcell t ht
  rw [Int.toNat_natCast]
  have hck' : (w.alloc (.cells #[.slice a n cap, .slice (some ⟨b, off, none⟩) m cap', .slice ad N pc, .int .i64 (t : Int), .slice e 3 ec, .slice u l uc] 81)).cell? ⟨b, off + t, none⟩ = some (.int .i64 (D[t]?.getD 0)) := by rw [hck]; simp
  generalize HG : D[t]?.getD 0 = g at *
  clear HG hck hcell bD hD
  go_enter Try.func60, Try.ntmps60
  go_wp2_with fail
  go_loopw [5, 16] (fun _ i wr => ∃ k : Nat, k ≤ N ∧ i = .int .i64 k ∧ Below w.heap.size w wr ∧ Cel wr w.heap.size [.slice a n cap, .slice (some ⟨b, off, none⟩) m cap', .slice ad N pc, .int .i64 (t : Int), .slice e 3 ec, .slice u l uc] 81 ∧ keepsB g E (ss.take k) = true) (fun _ i _ => N - (intOf i).toNat)
  case atStart => exact ⟨0, Nat.zero_le _, rfl, b0, q0, rfl⟩
  case round =>
    clear hck' q0 b0
    obtain ⟨k, hk, rfl, hb, q1, hall⟩ := hrel
    have HA : Hid _ := hall
    clear hall
    by_cases hlt : k < N
    · obtain ⟨b2, off2, rfl, hc, hr⟩ := (hF.below hb) k (by rw [HN.out]; exact hlt)
      have H1 : Hid _ := keepsB_step (g := g) (E := E) (ss := ss) (k := k) (by rw [HN.out]; exact hlt) HA.out
      have H2 : Hid _ := keepsB_false (g := g) (E := E) (ss := ss) (k := k) (by rw [HN.out]; exact hlt)
      have H3 := partsB_at (ss := ss) (k := k) (by rw [HN.out]; exact hlt) HP.out
      generalize HG : ss[k]?.getD noI = p at *
      clear HG hF HA
      obtain ⟨ga, gn, gcap, gx⟩ := p
      obtain ⟨e3, bx⟩ := okN_elim (by omega) H3
      obtain rfl : gn = 3 := by have : (gn : Int) = 3 := e3; omega
      have hP := bndP_of bx bE (by omega) (by omega)
      have hc' : wr.cell? ⟨b2, off2 + k, none⟩ = some (.slice ga 3 gcap) := hc
      have c4 := q1.cell 4
      simp only [List.getElem?_cons_zero, List.getElem?_cons_succ] at c4
      have hr1 : Ints wr ga 3 gx := hr.1
      clear hc H3 e3
      have dn := dot_bnd hP 3
      go_wp2_with fail
      refine (psum_any _ _ _ _ _ gx E _ _ hr1 (hE.below hb) (by omega) hP (by omega) (by omega)).mono ?_
      rintro r w1 ⟨rfl, rfl⟩
      have H1' : Hid (inB (dot gx E 3) (-g) g = true → keepsB g E (ss.take (k + 1)) = true) := H1
      have H2' : Hid (inB (dot gx E 3) (-g) g = false → keepsB g E ss = false) := H2
      generalize HG : dot gx E 3 = x at *
      clear HG H1 H2 hP dn
      go_wp2_with fail
      refine (within_any (some ⟨w1.heap.size, 0, none⟩) 1 1 [x] _ _ ?_ (by omega) (by omega) (by omega)).mono ?_
      · refine ⟨rfl, fun i hi => ⟨w1.heap.size, 0, rfl, ?_⟩⟩
        obtain rfl : i = 0 := by omega
        simp [go_sem]
      rintro r w2 ⟨rfl, rfl⟩
      rw [allB_one]
      cases he : inB x (-g) g
      · go_wp2
        go_ret
        exact ⟨ret_bool (by rw [H2'.out he]), hb.alloc hb.size _⟩
      · go_wp2
        go_roundw
        case rel => exact ⟨k + 1, by omega, by go_num, hb.alloc hb.size _, q1.alloc _, H1'.out he⟩
        case measure => simp [intOf]; omega
    · go_wp2
      go_ret
      exact ⟨ret_bool (by rw [keepsB_end (by rw [HN.out]; omega) HA.out]), hb⟩

set_option maxHeartbeats 1600000 in
theorem ikeep_any (a : Option Addr) (n cap : Nat) (c : Option Addr) (m cap' : Nat) (ad : Option Addr) (N pc : Nat) (s : Int) (e : Option Addr) (k ec : Nat) (C D E : List Int) (ss : List IV) (w : World)
    (hC : Ints w a n C) (hD : Ints w c m D) (hE : Ints w e k E) (hN : ss.length = N) (hF : ISG w ad ss) (hn : n ≤ 1048576) (hm : m ≤ 1048576) (hk : k ≤ 1048576) (hN1 : N ≤ 1048576) :
    Calls Try.prog 24 #[treV a n cap c m cap', .slice ad N pc, .int .i64 s, .slice e k ec] w fun r w' => r = .returned (.bool (keepB n m C D ss s k E)) ∧ Below w.heap.size w w' := by
  have HN : Hid (ss.length = N) := hN
  clear hN
  have B0 : Below w.heap.size w ((w.alloc (.cells #[.slice a n cap, .slice c m cap'] 45)).alloc (.cells #[.slice a n cap, .slice c m cap', .slice ad N pc, .int .i64 s, .slice e k ec, .slice none 0 0] 81)) := ((Below.refl w.heap.size w).alloc (Nat.le_refl _) _).alloc (by simp) _
  have q0 := Cel.new (w.alloc (.cells #[.slice a n cap, .slice c m cap'] 45)) [.slice a n cap, .slice c m cap', .slice ad N pc, .int .i64 s, .slice e k ec, .slice none 0 0] 81
  rw [World.size_alloc] at q0
  cases h1 : viewB n m C D ss s k E
  · go_enter Try.func24, Try.ntmps24
    go_wp2_with fail
    refine (vok_any _ _ _ _ _ _ _ _ _ _ _ _ _ _ _ _ C D E ss _ (hC.below B0) (hD.below B0) (hE.below B0) HN.out (hF.below B0) hn hm hk hN1).mono ?_
    rintro r w1 ⟨rfl, b1⟩
    have B1 := B0.trans (b1.mono B0.size)
    rw [h1]
    go_wp2
    go_ret
    exact ⟨ret_bool (by simp [keepB, h1]), B1⟩
  · obtain ⟨-, -, m1, m2, hp0, s0, s1, e2, bE, bD⟩ := viewB_elim h1
    have hp : Hid _ := hp0
    clear hp0
    subst e2
    go_enter Try.func24, Try.ntmps24
    go_wp2_with fail
    refine (vok_any _ _ _ _ _ _ _ _ _ _ _ _ _ _ _ _ C D E ss _ (hC.below B0) (hD.below B0) (hE.below B0) HN.out (hF.below B0) hn hm hk hN1).mono ?_
    rintro r w1 ⟨rfl, b1⟩
    have B1 := B0.trans (b1.mono B0.size)
    obtain ⟨c0, c1, c2, c3, c4, c5⟩ := (q0.below b1).sixK
    rw [h1]
    have HK : Hid _ := h1
    clear h1
    go_wp2_with fail
    refine (vkeeps_any _ _ _ _ _ _ _ _ _ _ _ _ _ _ _ C D E ss _ (hD.below B1) (hE.below B1) HN.out (hF.below B1) hN1 m2 s0 s1 hp.out bE bD).mono ?_
    rintro r w2 ⟨rfl, b2⟩
    have B2 := B1.trans (b2.mono B1.size)
    go_wp2
    go_ret
    exact ⟨ret_bool (by rw [keepB, HK.out]; rfl), B2⟩

end Go.Proofs.Ytpnldfembbfgdaa
namespace Go.Proofs.Ytpnldfembbfgdaa
open Go.RowKit Go.Deep
set_option linter.unusedVariables false

set_option maxHeartbeats 3200000 in
theorem skeep_any (a : Option Addr) (n cap : Nat) (c : Option Addr) (m cap' : Nat) (ad : Option Addr) (N pc : Nat) (s : Int) (e : Option Addr) (k ec : Nat) (C D E : List Int) (ss : List IV) (w : World)
    (hC : Ints w a n C) (hD : Ints w c m D) (hE : Ints w e k E) (hN : ss.length = N) (hF : ISG w ad ss) (hn : n ≤ 1048576) (hm : m ≤ 1048576) (hk : k ≤ 1048576) (hN1 : N ≤ 1048576) :
    Calls Try.prog 25 #[treV a n cap c m cap', .slice ad N pc, .int .i64 s, .slice e k ec] w fun r w' => r = .returned (.bool (keepB n m C D ss s k E)) ∧ Below w.heap.size w w' := by
  have HN : Hid (ss.length = N) := hN
  clear hN
  have b0 := (Below.refl w.heap.size w).alloc (Nat.le_refl _) (.cells #[.slice a n cap, .slice c m cap'] 45)
  have q0 := Cel.new w [.slice a n cap, .slice c m cap'] 45
  cases h1 : trtB n m C D
  · go_enter Try.func25, Try.ntmps25
    go_wp2_with fail
    refine (strt_any _ _ _ _ _ _ C D _ (hC.below b0) (hD.below b0) hn hm).mono ?_
    rintro r w1 ⟨rfl, b1⟩
    have B1 := b0.trans (b1.mono b0.size)
    rw [h1]
    go_wp2
    go_ret
    exact ⟨ret_bool (by simp [keepB, viewB, h1]), B1⟩
  cases h2 : partsB ss
  · go_enter Try.func25, Try.ntmps25
    go_wp2_with fail
    refine (strt_any _ _ _ _ _ _ C D _ (hC.below b0) (hD.below b0) hn hm).mono ?_
    rintro r w1 ⟨rfl, b1⟩
    have B1 := b0.trans (b1.mono b0.size)
    rw [h1]
    go_wp2_with fail
    refine (sparts_any _ _ _ ss _ HN.out (hF.below B1) hN1).mono ?_
    rintro r w2 ⟨rfl, rfl⟩
    rw [h2]
    go_wp2
    go_ret
    exact ⟨ret_bool (by simp [keepB, viewB, h2]), B1⟩
  cases h3 : inB s 0 ((m : Int) - 1)
  · go_enter Try.func25, Try.ntmps25
    go_wp2_with fail
    refine (strt_any _ _ _ _ _ _ C D _ (hC.below b0) (hD.below b0) hn hm).mono ?_
    rintro r w1 ⟨rfl, b1⟩
    have B1 := b0.trans (b1.mono b0.size)
    have c1 := (q0.below b1).cell 1
    simp only [List.getElem?_cons_zero, List.getElem?_cons_succ] at c1
    rw [h1]
    go_wp2_with fail
    refine (sparts_any _ _ _ ss _ HN.out (hF.below B1) hN1).mono ?_
    rintro r w2 ⟨rfl, rfl⟩
    rw [h2]
    go_wp2_with fail
    refine (in_any _ _ _ _).mono ?_
    rintro r w3 ⟨rfl, rfl⟩
    rw [h3]
    go_wp2
    go_ret
    exact ⟨ret_bool (by simp [keepB, viewB, h3]), B1⟩
  cases h4 : okN 3 20000 k E
  · go_enter Try.func25, Try.ntmps25
    go_wp2_with fail
    refine (strt_any _ _ _ _ _ _ C D _ (hC.below b0) (hD.below b0) hn hm).mono ?_
    rintro r w1 ⟨rfl, b1⟩
    have B1 := b0.trans (b1.mono b0.size)
    have c1 := (q0.below b1).cell 1
    simp only [List.getElem?_cons_zero, List.getElem?_cons_succ] at c1
    rw [h1]
    go_wp2_with fail
    refine (sparts_any _ _ _ ss _ HN.out (hF.below B1) hN1).mono ?_
    rintro r w2 ⟨rfl, rfl⟩
    rw [h2]
    go_wp2_with fail
    refine (in_any _ _ _ _).mono ?_
    rintro r w3 ⟨rfl, rfl⟩
    rw [h3]
    go_wp2_with fail
    refine (all_any _ _ _ E _ _ _ (hE.below B1) hk (by omega) (by omega)).mono ?_
    rintro r w4 ⟨rfl, rfl⟩
    rw [h4]
    go_wp2
    go_ret
    exact ⟨ret_bool (by simp [keepB, viewB, h4]), B1⟩
  have hv : viewB n m C D ss s k E = true := by simp [viewB, h1, h2, h3, h4]
  obtain ⟨-, -, m1, m2, hp0, s0, s1, e2, bE, bD⟩ := viewB_elim hv
  have HP : Hid _ := hp0
  have HV : Hid _ := hv
  have H1 : Hid _ := h1
  have H2 : Hid _ := h2
  have H3 : Hid _ := h3
  have H4 : Hid _ := h4
  clear hp0 hv h1 h2 h3 h4
  subst e2
  obtain ⟨t, rfl⟩ : ∃ t : Nat, s = t := ⟨s.toNat, by omega⟩
  have ht : t < m := by omega
  have bg := bD t (by rw [hD.1]; exact ht)
  obtain ⟨b, off, rfl, hcell⟩ := hD.pos (by omega)
  have hck := hcell t ht
  have hck' : w.cell? ⟨b, off + t, none⟩ = some (.int .i64 (D[t]?.getD 0)) := by rw [hck]; simp
  have hkb : keepB n m C D ss t 3 E = keepsB (D[t]?.getD 0) E ss := by rw [keepB, HV.out]; simp
  rw [hkb]
  clear hkb
  generalize HG : D[t]?.getD 0 = g at *
  clear HG hck hcell bD
  have ht' : (t : Int) < (m : Int) := by omega
  go_enter Try.func25, Try.ntmps25
  go_wp2_with fail
  refine (strt_any _ _ _ _ _ _ C D _ (hC.below b0) (hD.below b0) hn hm).mono ?_
  rintro r w1 ⟨rfl, b1⟩
  have B1 := b0.trans (b1.mono b0.size)
  have q1 := q0.below b1
  have c1 := q1.cell 1
  simp only [List.getElem?_cons_zero, List.getElem?_cons_succ] at c1
  rw [H1.out]
  go_wp2_with fail
  refine (sparts_any _ _ _ ss _ HN.out (hF.below B1) hN1).mono ?_
  rintro r w2 ⟨rfl, rfl⟩
  rw [H2.out]
  go_wp2_with fail
  refine (in_any _ _ _ _).mono ?_
  rintro r w3 ⟨rfl, rfl⟩
  rw [H3.out]
  go_wp2_with fail
  refine (all_any _ _ _ E _ _ _ (hE.below B1) hk (by omega) (by omega)).mono ?_
  rintro r w4 ⟨rfl, rfl⟩
  rw [H4.out]
  have dk : w4.cell? ⟨b, off + t, none⟩ = some (.int .i64 g) := by rw [B1.cell (p := ⟨b, off + t, none⟩) (block_lt hck')]; exact hck'
  clear c1 b1 b0 q0 hC hD
  go_wp2_with fail
  go_loopw [9] (fun i wr => ∃ k : Nat, k ≤ N ∧ i = .int .i64 k ∧ Below w.heap.size w wr ∧ Cel wr w.heap.size [.slice a n cap, .slice (some ⟨b, off, none⟩) m cap'] 45 ∧ keepsB g E (ss.take k) = true) (fun i _ => N - (intOf i).toNat)
  case atStart => exact ⟨0, Nat.zero_le _, rfl, B1, q1, rfl⟩
  case round =>
    clear dk B1 q1
    obtain ⟨j, hj, rfl, hb, q1, hall⟩ := hrel
    have HA : Hid _ := hall
    clear hall
    by_cases hlt : j < N
    · obtain ⟨b2, off2, rfl, hc, hr⟩ := (hF.below hb) j (by rw [HN.out]; exact hlt)
      have H1 : Hid _ := keepsB_step (g := g) (E := E) (ss := ss) (k := j) (by rw [HN.out]; exact hlt) HA.out
      have H2 : Hid _ := keepsB_false (g := g) (E := E) (ss := ss) (k := j) (by rw [HN.out]; exact hlt)
      have H3 := partsB_at (ss := ss) (k := j) (by rw [HN.out]; exact hlt) HP.out
      have dk : wr.cell? ⟨b, off + t, none⟩ = some (.int .i64 g) := by rw [hb.cell (p := ⟨b, off + t, none⟩) (block_lt hck')]; exact hck'
      generalize HG : ss[j]?.getD noI = p at *
      clear HG hF HA
      obtain ⟨ga, gn, gcap, gx⟩ := p
      obtain ⟨e3, bx⟩ := okN_elim (by omega) H3
      obtain rfl : gn = 3 := by have : (gn : Int) = 3 := e3; omega
      have hP := bndP_of bx bE (by omega) (by omega)
      have hr1 : Ints wr ga 3 gx := hr.1
      have hE1 := hE.below hb
      have hc' : wr.cell? ⟨b2, off2 + j, none⟩ = some (.slice ga 3 gcap) := hc
      have H1' : Hid (inB (dot gx E 3) (-g) g = true → keepsB g E (ss.take (j + 1)) = true) := H1
      have H2' : Hid (inB (dot gx E 3) (-g) g = false → keepsB g E ss = false) := H2
      clear hc H3 e3 hr H1 H2 hck' hE
      have hlt' : (j : Int) < (N : Int) := by omega
      go_upto_region 6 with fail
      have hn0 : wr.cell? ⟨w.heap.size, 1, none⟩ = some (.slice (some ⟨b, off, none⟩) m cap') ∧ wr.cell? ⟨b, off + t, none⟩ = some (.int .i64 g) ∧ wr.cell? ⟨b2, off2 + j, none⟩ = some (.slice ga 3 gcap) := ⟨q1.cell 1, dk, hc'⟩
      go_region_held3 (fun w' => w'.cell? ⟨w.heap.size, 1, none⟩ = some (.slice (some ⟨b, off, none⟩) m cap') ∧ w'.cell? ⟨b, off + t, none⟩ = some (.int .i64 g) ∧ w'.cell? ⟨b2, off2 + j, none⟩ = some (.slice ga 3 gcap)) (first | with_reducible assumption | exact hn0)
        (first
          | (go_at_call 64
             refine (times5_any _ _ _ _ gx E _ _ (by exact hr1.below (Below.refl _ _).drew) (by exact hE1.below (Below.refl _ _).drew) hP (by omega) (by omega)).mono ?_
             rintro ee w3 ⟨rfl, b3⟩
             have b3' := below_of_drew b3
             have q3 := q1.below b3'
             have d3 := (b3'.cell (p := ⟨b, off + t, none⟩) (block_lt dk)).trans dk
             have e3 := (b3'.cell (p := ⟨b2, off2 + j, none⟩) (block_lt hc')).trans hc'
             have hn3 : w3.cell? ⟨w.heap.size, 1, none⟩ = some (.slice (some ⟨b, off, none⟩) m cap') ∧ w3.cell? ⟨b, off + t, none⟩ = some (.int .i64 g) ∧ w3.cell? ⟨b2, off2 + j, none⟩ = some (.slice ga 3 gcap) := ⟨q3.cell 1, d3, e3⟩)
          | (go_at_call 62
             refine (in_any _ _ _ _).mono ?_
             rintro ee w4 ⟨rfl, rfl⟩))
      have hb2 := hb.trans (b3'.mono hb.size)
      have hw : IntKind.i64.wrap (-g) = -g := wrap_id (by omega) (by omega)
      rw [hw]
      cases he : inB (dot gx E 3) (-g) g
      · go_wp2
        go_ret
        exact ⟨ret_bool (by rw [H2'.out he]), hb2⟩
      · go_wp2
        go_roundw
        case rel => exact ⟨j + 1, by omega, by go_num, hb2, q3, H1'.out he⟩
        case measure => simp [intOf]; omega
    · go_wp2
      go_ret
      exact ⟨ret_bool (by rw [keepsB_end (by rw [HN.out]; omega) HA.out]), hb⟩

/-- What hangs on what is held alone is the same of a copy. -/
theorem copies_pair {ss ts : List IV} (hl : ts.length = ss.length) (h : copiesIS ss ts) : ts.map (fun p => (p.n, p.x)) = ss.map (fun p => (p.n, p.x)) := by
  apply List.ext_getElem?
  intro i
  by_cases hi : i < ts.length
  · have h0 := h i hi
    have h1 := h0.1
    have h2 := h0.2
    rw [List.getElem?_eq_getElem hi, List.getElem?_eq_getElem (by omega)] at h1 h2
    simp only [Option.getD_some] at h1 h2
    rw [List.getElem?_map, List.getElem?_map, List.getElem?_eq_getElem hi, List.getElem?_eq_getElem (by omega)]
    simp [h1, h2]
  · rw [List.getElem?_eq_none (by simp; omega), List.getElem?_eq_none (by simp; omega)]
theorem partsB_copy {ss ts : List IV} (hl : ts.length = ss.length) (h : copiesIS ss ts) : partsB ts = partsB ss := by
  have e : ∀ l : List IV, partsB l = (l.map (fun p => (p.n, p.x))).all fun q => okN 3 10000000 q.1 q.2 := fun l => by rw [List.all_map]; rfl
  rw [e, e, copies_pair hl h]
theorem keepsB_copy {g : Int} {E : List Int} {ss ts : List IV} (hl : ts.length = ss.length) (h : copiesIS ss ts) : keepsB g E ts = keepsB g E ss := by
  have e : ∀ l : List IV, keepsB g E l = (l.map (fun p => (p.n, p.x))).all fun q => inB (dot q.2 E 3) (-g) g := fun l => by rw [List.all_map]; rfl
  rw [e, e, copies_pair hl h]
theorem viewB_copy {n m : Nat} {C D : List Int} {ss ts : List IV} {s : Int} {k : Nat} {E : List Int} (hl : ts.length = ss.length) (h : copiesIS ss ts) : viewB n m C D ts s k E = viewB n m C D ss s k E := by
  rw [viewB, viewB, partsB_copy hl h]
theorem keepB_copy {n m : Nat} {C D : List Int} {ss ts : List IV} {s : Int} {k : Nat} {E : List Int} (hl : ts.length = ss.length) (h : copiesIS ss ts) : keepB n m C D ts s k E = keepB n m C D ss s k E := by
  rw [keepB, keepB, viewB_copy hl h, keepsB_copy hl h]
theorem copies_sameI {ss ts us : List IV} {N : Nat} (h1 : ts.length = N) (h2 : us.length = N) (c1 : copiesIS ss ts) (c2 : copiesIS ss us) : ∀ i, i < N → sameI (ts[i]?.getD noI) (us[i]?.getD noI) := fun i hi => by
  have a := (c1 i (by omega)).2
  have b := (c2 i (by omega)).2
  show _ = _
  rw [a, b]
theorem Cel.two {w : World} {B : Nat} {v0 v1 : Value} {t : TypeId} (h : Cel w B [v0, v1] t) : w.cell? ⟨B, 0, none⟩ = some v0 ∧ w.cell? ⟨B, 1, none⟩ = some v1 := ⟨h.cell 0, h.cell 1⟩
theorem Cel.three {w : World} {B : Nat} {v0 v1 v2 : Value} {t : TypeId} (h : Cel w B [v0, v1, v2] t) : w.cell? ⟨B, 0, none⟩ = some v0 ∧ w.cell? ⟨B, 1, none⟩ = some v1 ∧ w.cell? ⟨B, 2, none⟩ = some v2 := ⟨h.cell 0, h.cell 1, h.cell 2⟩

end Go.Proofs.Ytpnldfembbfgdaa
namespace Go.Proofs.Ytpnldfembbfgdaa
open Go.RowKit Go.Deep
set_option linter.unusedVariables false

/-- The first k sites keep within a treaty. -/
def keepAll (n m : Nat) (C D : List Int) (ss ls : List IV) : Nat → Bool
  | 0 => true
  | k + 1 => keepAll n m C D ss ls k && keepB n m C D ss (k : Int) (ls[k]?.getD noI).n (ls[k]?.getD noI).x
theorem keepAll_false {n m : Nat} {C D : List Int} {ss ls : List IV} {k : Nat} (h : keepB n m C D ss (k : Int) (ls[k]?.getD noI).n (ls[k]?.getD noI).x = false) : ∀ N, k < N → keepAll n m C D ss ls N = false
  | 0, hN => by omega
  | N + 1, hN => by
    by_cases e : k = N
    · subst e; simp [keepAll, h]
    · rw [keepAll, keepAll_false h N (by omega)]; rfl
/-- Whether all keep within a treaty. -/
def allKeepB (n m : Nat) (C D : List Int) (ss ls : List IV) (L : Nat) : Bool := trtB n m C D && (decide ((L : Int) = m) && keepAll n m C D ss ls L)
theorem keepAll_copy {n m : Nat} {C D : List Int} {ss ts ls us : List IV} (hl : ts.length = ss.length) (h : copiesIS ss ts) (h' : copiesIS ls us) : ∀ N, N ≤ us.length → keepAll n m C D ts us N = keepAll n m C D ss ls N
  | 0, _ => rfl
  | N + 1, hN => by
    have c := h' N (by omega)
    rw [keepAll, keepAll, keepAll_copy hl h h' N (by omega), keepB_copy hl h, c.1, c.2]
theorem allKeepB_copy {n m : Nat} {C D : List Int} {ss ts ls us : List IV} {L : Nat} (hl : ts.length = ss.length) (h : copiesIS ss ts) (h' : copiesIS ls us) (hu : us.length = L) : allKeepB n m C D ts us L = allKeepB n m C D ss ls L := by
  rw [allKeepB, allKeepB, keepAll_copy hl h h' L (by omega)]

set_option maxHeartbeats 3200000 in
theorem sall_any (a : Option Addr) (n cap : Nat) (c : Option Addr) (m cap' : Nat) (ad : Option Addr) (N pc : Nat) (e : Option Addr) (L ec : Nat) (C D : List Int) (ss ls : List IV) (w : World)
    (hC : Ints w a n C) (hD : Ints w c m D) (hN : ss.length = N) (hF : ISG w ad ss) (hL : ls.length = L) (hE : ISG w e ls) (hn : n ≤ 1048576) (hm : m ≤ 1048576) (hN1 : N ≤ 1048576) (hL1 : L ≤ 1048576) :
    Calls Try.prog 30 #[treV a n cap c m cap', .slice ad N pc, .slice e L ec] w fun r w' => r = .returned (.bool (allKeepB n m C D ss ls L)) ∧ Below w.heap.size w w' := by
  have HN : Hid (ss.length = N) := hN
  have HL : Hid (ls.length = L) := hL
  clear hN hL
  have b0 := (Below.refl w.heap.size w).alloc (Nat.le_refl _) (.cells #[.slice a n cap, .slice c m cap'] 45)
  have q0 := Cel.new w [.slice a n cap, .slice c m cap'] 45
  cases h1 : trtB n m C D
  · go_enter Try.func30, Try.ntmps30
    go_wp2_with fail
    refine (strt_any _ _ _ _ _ _ C D _ (hC.below b0) (hD.below b0) hn hm).mono ?_
    rintro r w1 ⟨rfl, b1⟩
    have B1 := b0.trans (b1.mono b0.size)
    rw [h1]
    go_wp2
    go_ret
    exact ⟨ret_bool (by simp [allKeepB, h1]), B1⟩
  have H1 : Hid _ := h1
  clear h1
  by_cases h2 : (L : Int) = m
  · have h2' : ((L : Int) != (m : Int)) = false := by simp [h2]
    have H2 : Hid ((L : Int) = m) := h2
    clear h2
    go_enter Try.func30, Try.ntmps30
    go_wp2_with fail
    refine (strt_any _ _ _ _ _ _ C D _ (hC.below b0) (hD.below b0) hn hm).mono ?_
    rintro r w1 ⟨rfl, b1⟩
    have B1 := b0.trans (b1.mono b0.size)
    have q1 := q0.below b1
    obtain ⟨c0, c1⟩ := q1.two
    rw [H1.out]
    clear b1 b0 q0
    go_wp2_with fail
    go_loopw [7] (fun i wr => ∃ k : Nat, k ≤ L ∧ i = .int .i64 k ∧ Below w.heap.size w wr ∧ Cel wr w.heap.size [.slice a n cap, .slice c m cap'] 45 ∧ keepAll n m C D ss ls k = true) (fun i _ => L - (intOf i).toNat)
    case atStart => exact ⟨0, Nat.zero_le _, rfl, B1, q1, rfl⟩
    case round =>
      clear c0 c1 B1 q1
      obtain ⟨j, hj, rfl, hb, q1, hall⟩ := hrel
      have HA : Hid _ := hall
      clear hall
      by_cases hlt : j < L
      · obtain ⟨b2, off2, rfl, hc, hr⟩ := (hE.below hb) j (by rw [HL.out]; exact hlt)
        have HK : Hid (keepAll n m C D ss ls (j + 1) = (keepAll n m C D ss ls j && keepB n m C D ss (j : Int) (ls[j]?.getD noI).n (ls[j]?.getD noI).x)) := rfl
        have HF : Hid _ := keepAll_false (n := n) (m := m) (C := C) (D := D) (ss := ss) (ls := ls) (k := j)
        generalize HG : ls[j]?.getD noI = p at *
        clear HG hE
        obtain ⟨ga, gn, gcap, gx⟩ := p
        have hc' : wr.cell? ⟨b2, off2 + j, none⟩ = some (.slice ga gn gcap) := hc
        have hr1 : Ints wr ga gn gx := hr.1
        have hr2 : gn ≤ 1048576 := hr.2
        have HK' : Hid (keepAll n m C D ss ls (j + 1) = (keepAll n m C D ss ls j && keepB n m C D ss (j : Int) gn gx)) := HK
        have HF' : Hid (keepB n m C D ss (j : Int) gn gx = false → ∀ N, j < N → keepAll n m C D ss ls N = false) := HF
        obtain ⟨c0, c1⟩ := q1.two
        have hC1 := hC.below hb
        have hD1 := hD.below hb
        have hF1 := hF.below hb
        clear hc hr HK HF hC hD hF
        have hlt' : (j : Int) < (L : Int) := by omega
        go_wp2_with fail
        go_region_with (first | (go_at_call 25; refine (skeep_any _ _ _ _ _ _ _ _ _ _ _ _ _ C D gx ss _ (by exact hC1.below (Below.refl _ _).drew) (by exact hD1.below (Below.refl _ _).drew) (by exact hr1.below (Below.refl _ _).drew) HN.out (by exact hF1.below (Below.refl _ _).drew) hn hm hr2 hN1).mono ?_; rintro ee w3 ⟨rfl, b3⟩; have b3' := below_of_drew b3))
        all_goals
          have q3 := q1.below b3'
          have hb2 := hb.trans (b3'.mono hb.size)
          cases he : keepB n m C D ss (j : Int) gn gx
          · go_wp2
            go_ret
            exact ⟨ret_bool (by rw [allKeepB, HF'.out he L hlt]; simp), hb2⟩
          · go_wp2
            go_roundw
            case rel => exact ⟨j + 1, by omega, by go_num, hb2, q3, by rw [HK'.out, HA.out, he]; rfl⟩
            case measure => simp [intOf]; omega
      · obtain rfl : j = L := by omega
        go_wp2
        go_ret
        exact ⟨ret_bool (by rw [allKeepB, H1.out, decide_eq_true H2.out, HA.out]; rfl), hb⟩
  · have h2' : ((L : Int) != (m : Int)) = true := by simp [h2]
    have H2 : Hid (¬ (L : Int) = m) := h2
    clear h2
    go_enter Try.func30, Try.ntmps30
    go_wp2_with fail
    refine (strt_any _ _ _ _ _ _ C D _ (hC.below b0) (hD.below b0) hn hm).mono ?_
    rintro r w1 ⟨rfl, b1⟩
    have B1 := b0.trans (b1.mono b0.size)
    have q1 := q0.below b1
    obtain ⟨c0, c1⟩ := q1.two
    rw [H1.out]
    go_wp2
    go_ret
    exact ⟨ret_bool (by rw [allKeepB, decide_eq_false H2.out]; simp), B1⟩

set_option maxHeartbeats 3200000 in
theorem iall_any (a : Option Addr) (n cap : Nat) (c : Option Addr) (m cap' : Nat) (ad : Option Addr) (N pc : Nat) (e : Option Addr) (L ec : Nat) (C D : List Int) (ss ls : List IV) (w : World)
    (hC : Ints w a n C) (hD : Ints w c m D) (hN : ss.length = N) (hF : ISG w ad ss) (hL : ls.length = L) (hE : ISG w e ls) (hn : n ≤ 1048576) (hm : m ≤ 1048576) (hN1 : N ≤ 1048576) (hL1 : L ≤ 1048576) :
    Calls Try.prog 29 #[treV a n cap c m cap', .slice ad N pc, .slice e L ec] w fun r w' => r = .returned (.bool (allKeepB n m C D ss ls L)) ∧ Below w.heap.size w w' := by
  have HN : Hid (ss.length = N) := hN
  have HL : Hid (ls.length = L) := hL
  clear hN hL
  have b0 := (Below.refl w.heap.size w).alloc (Nat.le_refl _) (.cells #[.slice a n cap, .slice c m cap'] 45)
  have q0 := Cel.new w [.slice a n cap, .slice c m cap'] 45
  cases h1 : trtB n m C D
  · go_enter Try.func29, Try.ntmps29
    go_wp2_with fail
    refine (itrt_any _ _ _ _ _ _ C D _ (hC.below b0) (hD.below b0) hn hm).mono ?_
    rintro r w1 ⟨rfl, b1⟩
    have B1 := b0.trans (b1.mono b0.size)
    rw [h1]
    go_wp2
    go_ret
    exact ⟨ret_bool (by simp [allKeepB, h1]), B1⟩
  have H1 : Hid _ := h1
  clear h1
  by_cases h2 : (L : Int) = m
  · have h2' : ((L : Int) != (m : Int)) = false := by simp [h2]
    have H2 : Hid ((L : Int) = m) := h2
    clear h2
    go_enter Try.func29, Try.ntmps29
    go_wp2_with fail
    refine (itrt_any _ _ _ _ _ _ C D _ (hC.below b0) (hD.below b0) hn hm).mono ?_
    rintro r w1 ⟨rfl, b1⟩
    have B1 := b0.trans (b1.mono b0.size)
    have q1 := q0.below b1
    obtain ⟨c0, c1⟩ := q1.two
    rw [H1.out]
    clear b1 b0 q0
    go_wp2_with fail
    go_loopw [7, 8, 22] (fun _ _ i wr => ∃ k : Nat, k ≤ L ∧ i = .int .i64 k ∧ Below w.heap.size w wr ∧ Cel wr w.heap.size [.slice a n cap, .slice c m cap'] 45 ∧ keepAll n m C D ss ls k = true) (fun _ _ i _ => L - (intOf i).toNat)
    case atStart => exact ⟨0, Nat.zero_le _, rfl, B1, q1, rfl⟩
    case round =>
      clear c0 c1 B1 q1
      obtain ⟨j, hj, rfl, hb, q1, hall⟩ := hrel
      have HA : Hid _ := hall
      clear hall
      by_cases hlt : j < L
      · obtain ⟨b2, off2, rfl, hc, hr⟩ := (hE.below hb) j (by rw [HL.out]; exact hlt)
        have HK : Hid (keepAll n m C D ss ls (j + 1) = (keepAll n m C D ss ls j && keepB n m C D ss (j : Int) (ls[j]?.getD noI).n (ls[j]?.getD noI).x)) := rfl
        have HF : Hid _ := keepAll_false (n := n) (m := m) (C := C) (D := D) (ss := ss) (ls := ls) (k := j)
        generalize HG : ls[j]?.getD noI = p at *
        clear HG hE
        obtain ⟨ga, gn, gcap, gx⟩ := p
        have hc' : wr.cell? ⟨b2, off2 + j, none⟩ = some (.slice ga gn gcap) := hc
        have hr1 : Ints wr ga gn gx := hr.1
        have hr2 : gn ≤ 1048576 := hr.2
        have HK' : Hid (keepAll n m C D ss ls (j + 1) = (keepAll n m C D ss ls j && keepB n m C D ss (j : Int) gn gx)) := HK
        have HF' : Hid (keepB n m C D ss (j : Int) gn gx = false → ∀ N, j < N → keepAll n m C D ss ls N = false) := HF
        obtain ⟨c0, c1⟩ := q1.two
        have hC1 := hC.below hb
        have hD1 := hD.below hb
        have hF1 := hF.below hb
        clear hc hr HK HF hC hD hF
        have hlt' : (j : Int) < (L : Int) := by omega
        go_wp2_with fail
        refine (ikeep_any _ _ _ _ _ _ _ _ _ _ _ _ _ C D gx ss _ hC1 hD1 hr1 HN.out hF1 hn hm hr2 hN1).mono ?_
        rintro ee w3 ⟨rfl, b3⟩
        have q3 := q1.below b3
        have hb2 := hb.trans (b3.mono hb.size)
        cases he : keepB n m C D ss (j : Int) gn gx
        · go_wp2
          go_ret
          exact ⟨ret_bool (by rw [allKeepB, HF'.out he L hlt]; simp), hb2⟩
        · go_wp2
          go_roundw
          case rel => exact ⟨j + 1, by omega, by go_num, hb2, q3, by rw [HK'.out, HA.out, he]; rfl⟩
          case measure => simp [intOf]; omega
      · obtain rfl : j = L := by omega
        go_wp2
        go_ret
        exact ⟨ret_bool (by rw [allKeepB, H1.out, decide_eq_true H2.out, HA.out]; rfl), hb⟩
  · have h2' : ((L : Int) != (m : Int)) = true := by simp [h2]
    have H2 : Hid (¬ (L : Int) = m) := h2
    clear h2
    go_enter Try.func29, Try.ntmps29
    go_wp2_with fail
    refine (itrt_any _ _ _ _ _ _ C D _ (hC.below b0) (hD.below b0) hn hm).mono ?_
    rintro r w1 ⟨rfl, b1⟩
    have B1 := b0.trans (b1.mono b0.size)
    have q1 := q0.below b1
    obtain ⟨c0, c1⟩ := q1.two
    rw [H1.out]
    go_wp2
    go_ret
    exact ⟨ret_bool (by rw [allKeepB, decide_eq_false H2.out]; simp), B1⟩

end Go.Proofs.Ytpnldfembbfgdaa
