/-
  Which pots forms have, marked (spec.l4Reads). Length at most 1048576.
-/
import Derived.Test.YtdigmokjedckeaaGreatDoorRowsS
import Derived.Deep.AppendLies
namespace Go.Proofs.YtdigmokjedckeaaGreatDoor
open Go.RowKit Go.Deep
set_option linter.unusedVariables false
set_option maxRecDepth 100000

/-- Three bools that can be read. -/
def Bools (W : World) (a : Option Addr) (f : Nat → Bool) : Prop := ∃ b off, a = some ⟨b, off, none⟩ ∧ ∀ v, v < 3 → W.cell? ⟨b, off + v, none⟩ = some (.bool (f v))
theorem Bools.below {W W' : World} {a : Option Addr} {f : Nat → Bool} (h : Bools W a f) (b : Below W.heap.size W W') : Bools W' a f := by
  obtain ⟨b0, off, e, hc⟩ := h
  exact ⟨b0, off, e, fun v hv => (b.cell (p := ⟨b0, off + v, none⟩) (block_lt (hc v hv))).trans (hc v hv)⟩
/-- Three bools in a block, free to be written. -/
def OwnB (W : World) (G : Nat) (f : Nat → Bool) : Prop := ∃ cur : List Value, Cel W G cur 4 ∧ ∀ v, v < 3 → cur[v]? = some (.bool (f v))
theorem OwnB.lt {W : World} {G : Nat} {f : Nat → Bool} (h : OwnB W G f) : G < W.heap.size := by obtain ⟨cur, hc, _⟩ := h; exact hc.lt
theorem OwnB.bools {W : World} {G : Nat} {f : Nat → Bool} (h : OwnB W G f) : Bools W (some ⟨G, 0, none⟩) f := by
  obtain ⟨cur, hc, hv⟩ := h
  exact ⟨G, 0, rfl, fun v hh => by rw [Nat.zero_add, hc.cell v]; exact hv v hh⟩
theorem OwnB.set {W : World} {G : Nat} {f : Nat → Bool} (h : OwnB W G f) {u : Nat} (hu : u < 3) (x : Bool) : OwnB (W.setCell ⟨G, u, none⟩ (.bool x)) G (fun v => if v = u then x else f v) := by
  obtain ⟨cur, hc, hv⟩ := h
  have hl : u < cur.length := (List.getElem?_eq_some_iff.1 (hv u hu)).1
  refine ⟨_, hc.set u _, fun v hh => ?_⟩
  by_cases e : v = u
  · subst e; rw [List.getElem?_set_self hl]; simp
  · rw [List.getElem?_set_ne (by omega)]; simp only [e, if_false]; exact hv v hh
theorem OwnB.ext {W : World} {G : Nat} {f g : Nat → Bool} (h : OwnB W G f) (e : ∀ v, v < 3 → f v = g v) : OwnB W G g := by
  obtain ⟨cur, hc, hv⟩ := h
  exact ⟨cur, hc, fun v hh => by rw [← e v hh]; exact hv v hh⟩
/-- Pots that forms have are marked. -/
def hasP (f : Frm) (v : Nat) : Bool := f.1[v]?.getD 0 != 0
def readsF (r : Nat → Bool) (fs : List Frm) (v : Nat) : Bool := r v || fs.any (fun f => hasP f v)
theorem readsF_snoc (r : Nat → Bool) (fs : List Frm) (k : Nat) (hk : k < fs.length) (v : Nat) : readsF r (fs.take (k + 1)) v = (readsF r (fs.take k) v || hasP (fs[k]?.getD ([], [], 0)) v) := by
  rw [readsF, readsF, List.take_succ_eq_append_getElem hk, List.any_append, List.getElem?_eq_getElem hk]
  simp [Bool.or_assoc]
theorem Tryz.infoBool : (Tryz.prog.info? 4).map (fun i => (i.zero, i.size, i.bytes)) = some (some (.bool false), 1, 1) := by kernel_rfl

set_option maxHeartbeats 3200000 in
theorem sreads_any (pa : Option Addr) (pc : Nat) (r : Nat → Bool) (ad : Option Addr) (N cap : Nat) (fs : List Frm) (w : World) (hB : Bools w pa r) (hN : fs.length = N) (hF : FormsAt w ad fs) (hfit : ∀ k, k < N → fitX 10000000 (fs[k]?.getD ([], [], 0))) (hN1 : N ≤ 1048576) :
    Calls Tryz.prog 58 #[.slice pa 3 pc, .slice ad N cap] w fun e w' => ∃ G cG, e = .returned (.slice (some ⟨G, 0, none⟩) 3 cG) ∧ Below w.heap.size w w' ∧ w.heap.size ≤ G ∧ OwnB w' G (readsF r fs) := by
  have HN : Hid (fs.length = N) := hN
  have HF : Hid (FormsAt w ad fs) := hF
  have HFT : Hid _ := hfit
  clear hN hF hfit
  obtain ⟨zi, hi, hz0, hz1, hz2⟩ := info_parts Tryz.infoBool
  obtain ⟨pb, po, rfl, hpc⟩ := hB
  have A : Below w.heap.size w (w.alloc (.cells #[] 4)) := (Below.refl _ _).alloc (Nat.le_refl _) _
  have HOL := World.ownsRow_lit (e := 4) (size := 1) (base := w.heap.size) w #[] 0 (Nat.le_refl _) (by unfold maxLen; omega) rfl
  have HNW : Hid (∀ j u, ([.bool (r 0), .bool (r 1), .bool (r 2)] : List Value)[j]? = some u → (w.alloc (.cells #[] 4)).cell? ((⟨pb, po, none⟩ : Addr).add j) = some u) := fun j u hu => by
    have hadd : (⟨pb, po, none⟩ : Addr).add j = ⟨pb, po + j, none⟩ := by
      by_cases h0 : j = 0
      · subst h0; simp [Addr.add]
      · simp [Addr.add, h0]
    rw [hadd]
    have key : ∀ v, v < 3 → (w.alloc (.cells #[] 4)).cell? ⟨pb, po + v, none⟩ = some (.bool (r v)) := fun v hv => by rw [A.cell (p := ⟨pb, po + v, none⟩) (block_lt (hpc v hv))]; exact hpc v hv
    match j with
    | 0 => simp only [List.getElem?_cons_zero, Option.some.injEq] at hu; subst hu; exact key 0 (by omega)
    | 1 => simp only [List.getElem?_cons_zero, List.getElem?_cons_succ, Option.some.injEq] at hu; subst hu; exact key 1 (by omega)
    | 2 => simp only [List.getElem?_cons_zero, List.getElem?_cons_succ, Option.some.injEq] at hu; subst hu; exact key 2 (by omega)
    | j + 3 => simp at hu
  clear hpc
  go_enter Tryz.func58, Tryz.ntmps58
  go_wp2_with (at_builtin; go_must (refine wpList_append_lies _ rfl (.tmp 8) (.tmp 9) 62 rfl w.heap.size 4 zi _ 1 1 Tryz.underlying62 hi hz0 hz1 hz2 rfl (by decide) (.slice (some ⟨w.heap.size, 0, none⟩) 0 0) 0 [] rfl HOL ⟨pb, po, none⟩ 3 pc [.bool (r 0), .bool (r 1), .bool (r 2)] rfl rfl HNW.out (by simp [Value.oneCell']) (by omega) (by unfold maxLen; omega) (by omega) (by rw [World.size_alloc]; omega) _ rfl ?_); intro G cG w1 hown hgrow hat hlt1)
  have b1 : Below w.heap.size w w1 := A.grown hgrow A.size (fun k hk => by have h' : some w.heap.size = some k := hk; simp only [Option.some.injEq] at h'; omega)
  have o1 : OwnB w1 G (readsF r (fs.take 0)) ∧ w.heap.size ≤ G := by
    rcases hown.2 with ⟨h', _⟩ | ⟨g', cap', cur, h', hb, hg, _, _, hcs, htake⟩
    · cases h'
    · simp only [Value.slice.injEq, Option.some.injEq, Addr.mk.injEq, and_true, true_and] at h'
      obtain ⟨rfl, rfl⟩ := h'
      refine ⟨⟨cur.toList, by unfold Cel; simpa using hg, fun v hv => ?_⟩, hb⟩
      have h1 : (cur.toList.take ((0 + 3) * 1))[v]? = ([.bool (r 0), .bool (r 1), .bool (r 2)] : List Value)[v]? := by rw [htake]; rfl
      rw [List.getElem?_take, if_pos (by omega)] at h1
      rw [h1]
      match v, hv with
      | 0, _ => simp [readsF]
      | 1, _ => simp [readsF]
      | 2, _ => simp [readsF]
  obtain ⟨o1, lG⟩ := o1
  clear hown hgrow hat HNW HOL A
  go_wp2_with fail
  go_loopw [6, 7] (fun i _ wr => ∃ k : Nat, k ≤ N ∧ i = .int .i64 k ∧ Below w.heap.size w wr ∧ OwnB wr G (readsF r (fs.take k))) (fun i _ _ => N - (intOf i).toNat)
  case atStart => exact ⟨0, Nat.zero_le _, rfl, b1, o1⟩
  case round =>
    clear b1 o1
    obtain ⟨k, hk, rfl, hb, o⟩ := hrel
    by_cases hlt : k < N
    · have hlt' : (k : Int) < N := by omega
      have hkl : k < fs.length := by rw [HN.out]; exact hlt
      have HS : Hid (∀ v, readsF r (fs.take (k + 1)) v = (readsF r (fs.take k) v || hasP (fs[k]?.getD ([], [], 0)) v)) := fun v => readsF_snoc r fs k hkl v
      have hfit := HFT.out k hlt
      obtain ⟨lC, -, -, -, -, -⟩ := hfit
      have o' : OwnB wr G (fun v => if v < 0 then readsF r (fs.take (k + 1)) v else readsF r (fs.take k) v) := o.ext (fun v hv => by simp)
      clear o
      have HW : Hid (Below w.heap.size w wr) := hb
      clear hb
      go_wp2_with fail
      go_loopw [7] (fun v w2 => ∃ u : Nat, u ≤ 3 ∧ v = .int .i64 u ∧ Below w.heap.size w w2 ∧ OwnB w2 G (fun v => if v < u then readsF r (fs.take (k + 1)) v else readsF r (fs.take k) v)) (fun v _ => 3 - (intOf v).toNat)
      case atStart => exact ⟨0, by omega, rfl, HW.out, o'⟩
      case round =>
        clear o' HW
        obtain ⟨u, hu, rfl, hb, o⟩ := hrel
        by_cases hu3 : u < 3
        · have hu' : (u : Int) < 3 := by omega
          obtain ⟨b, off, rfl, a', c', ca, cc, c0, c1, c2, iC, iD⟩ := (HF.out.keep hb) k hkl
          obtain ⟨cb, co, rfl, cv⟩ := iC.2 u hu3
          have hval : (fs[k]?.getD ([], [], 0)).1.getD u 0 = (fs[k]?.getD ([], [], 0)).1[u]?.getD 0 := by rw [List.getD_eq_getElem?_getD]
          rw [hval] at cv
          have HH : Hid (hasP (fs[k]?.getD ([], [], 0)) u = ((fs[k]?.getD ([], [], 0)).1[u]?.getD 0 != 0)) := rfl
          generalize (fs[k]?.getD ([], [], 0)).1[u]?.getD 0 = z at *
          have lG2 := o.lt
          by_cases hz : z = 0
          · have hz' : (z != 0) = false := by simp [hz]
            have O2 : OwnB wr G (fun v => if v < u + 1 then readsF r (fs.take (k + 1)) v else readsF r (fs.take k) v) := o.ext (fun v hv => by
              by_cases e : v = u
              · subst e; simp only [Nat.lt_irrefl, if_false, Nat.lt_succ_self, if_true]; rw [HS.out, HH.out, hz']; simp
              · by_cases e2 : v < u
                · rw [if_pos e2, if_pos (by omega)]
                · rw [if_neg e2, if_neg (by omega)])
            have HO2 : Hid (OwnB wr G (fun v => if v < u + 1 then readsF r (fs.take (k + 1)) v else readsF r (fs.take k) v)) := O2
            clear o O2
            go_wp2
            go_roundw
            case rel => exact ⟨u + 1, by omega, by go_num, hb, HO2.out⟩
            case measure => simp [intOf]; omega
          · have hz' : (z != 0) = true := by simp [hz]
            obtain ⟨cur, hc, hv⟩ := o
            have g0 : wr.cell? ⟨G, u, none⟩ = some _ := (hc.cell u).trans (hv u hu3)
            have fz := hc.free u
            have o2 := OwnB.set (W := wr) (G := G) ⟨cur, hc, hv⟩ hu3 true
            have O2 : Hid (OwnB (wr.setCell ⟨G, u, none⟩ (.bool true)) G (fun v => if v < u + 1 then readsF r (fs.take (k + 1)) v else readsF r (fs.take k) v)) := o2.ext (fun v hv => by
              by_cases e : v = u
              · subst e; simp only [if_true, Nat.lt_succ_self]; rw [HS.out, HH.out, hz']; simp
              · simp only [e, if_false]
                by_cases e2 : v < u
                · rw [if_pos e2, if_pos (by omega)]
                · rw [if_neg e2, if_neg (by omega)])
            have B2 := hb.setCell (p := ⟨G, u, none⟩) lG (.bool true)
            clear o2 hc hv
            go_wp2
            go_roundw
            case rel => exact ⟨u + 1, by omega, by go_num, B2, O2.out⟩
            case measure => simp [intOf]; omega
        · obtain rfl : u = 3 := by omega
          have O3 : Hid (OwnB wr G (readsF r (fs.take (k + 1)))) := o.ext (fun v hv => by simp only [hv, if_true])
          clear o
          go_wp2
          go_roundw
          case rel => exact ⟨k + 1, by omega, by go_num, hb, O3.out⟩
          case measure => simp [intOf]; omega
    · obtain rfl : k = N := by omega
      have O3 : OwnB wr G (readsF r fs) := by
        have : fs.take k = fs := List.take_of_length_le (by rw [HN.out]; exact Nat.le_refl _)
        rw [this] at o; exact o
      go_wp2
      go_ret
      exact ⟨G, cG, rfl, hb, lG, O3⟩

end Go.Proofs.YtdigmokjedckeaaGreatDoor
