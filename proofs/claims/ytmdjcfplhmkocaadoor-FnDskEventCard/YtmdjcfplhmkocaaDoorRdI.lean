/-
  A result, as the program reads it: its numbers, its word. The library's strconv.Atoi and strings.Split are taken by what they answer (ReadsN, Splits).
-/
import Derived.Test.YtmdjcfplhmkocaaDoorRdP
import Derived.Test.YtmdjcfplhmkocaaDoorTxtJ
namespace Go.Proofs.YtmdjcfplhmkocaaDoor
open Go.RowKit
set_option linter.unusedVariables false
set_option maxRecDepth 100000

def AtoiPost (x : List UInt8) (W : World) (e : Ending) (w' : World) : Prop :=
  Below W.heap.size W w' ∧ ((∃ v, Lib.atoiAll x = .ok v ∧ e = .returned (.tuple #[.int .i64 v, .nilIface])) ∨ ((∀ v, Lib.atoiAll x ≠ .ok v) ∧ ∃ z t b, e = .returned (.tuple #[.int .i64 z, .iface t (.pointer (some ⟨b, 0, none⟩))])))
def ReadsN (w : World) : Prop := ∀ W, Below w.heap.size w W → ∀ x : List UInt8, x.length ≤ 120 → Calls Tryd.prog 40 #[.string ⟨x.toArray⟩] W (AtoiPost x W)
def SplitPost (l : List UInt8) (W : World) (e : Ending) (w' : World) : Prop :=
  e = .returned (.slice (some ⟨W.heap.size, 0, none⟩) (wordsOf l).length (wordsOf l).length) ∧ W.heap.size < w'.heap.size ∧ (∀ (i : Nat) (x : List UInt8), (wordsOf l)[i]? = some x → w'.cell? ⟨W.heap.size, i, none⟩ = some (.string ⟨x.toArray⟩)) ∧ Below W.heap.size W w'
def Splits (w : World) : Prop := ∀ W, Below w.heap.size w W → ∀ l : List UInt8, l.length ≤ 120 → Calls Tryd.prog 31 #[.string ⟨l.toArray⟩, .string ⟨#[32]⟩] W (SplitPost l W)
theorem ReadsN.below {w w' : World} (h : ReadsN w) (b : Below w.heap.size w w') : ReadsN w' := fun W hW => h W (b.trans (hW.mono b.size))
theorem atoiS_drop {ws : List (List UInt8)} {k : Nat} {x : List UInt8} {v : Int} {xs : List Int} (hk : ws[k]? = some x) (hx : Lib.atoiAll x = .ok v) (h : atoiS ws = (atoiS (ws.drop k)).map (xs ++ ·)) : atoiS ws = (atoiS (ws.drop (k + 1))).map ((xs ++ [v]) ++ ·) := by
  have hl := (List.getElem?_eq_some_iff.1 hk).1
  have e : ws.drop k = x :: ws.drop (k + 1) := by
    rw [List.drop_eq_getElem_cons hl, (List.getElem?_eq_some_iff.1 hk).2]
  rw [h, e, atoiS, hx]
  simp only [Option.map_map]
  congr 1
  funext y
  simp
theorem atoiS_bad {ws : List (List UInt8)} {k : Nat} {x : List UInt8} {xs : List Int} (hk : ws[k]? = some x) (hx : ∀ v, Lib.atoiAll x ≠ .ok v) (h : atoiS ws = (atoiS (ws.drop k)).map (xs ++ ·)) : atoiS ws = none := by
  have hl := (List.getElem?_eq_some_iff.1 hk).1
  have e : ws.drop k = x :: ws.drop (k + 1) := by
    rw [List.drop_eq_getElem_cons hl, (List.getElem?_eq_some_iff.1 hk).2]
  rw [h, e, atoiS]
  cases hh : Lib.atoiAll x with
  | ok v => exact absurd hh (hx v)
  | «syntax» => rfl
  | range => rfl

set_option maxHeartbeats 3200000 in
theorem inums_any (ws : List (List UInt8)) (b o n cap : Nat) (w : World) (hn : ws.length = n) (hn1 : n ≤ 121) (hb : b < w.heap.size) (hW : ∀ (i : Nat) (x : List UInt8), ws[i]? = some x → w.cell? ⟨b, o + i, none⟩ = some (.string ⟨x.toArray⟩)) (hws : ∀ x ∈ ws, x.length ≤ 120) (hA : ReadsN w) :
    Calls Tryd.prog 32 #[.slice (some ⟨b, o, none⟩) n cap] w fun e w' => ∃ v xs ok, e = .returned (.tuple #[v, .bool ok]) ∧ JA w v xs w' ∧ (ok = true → atoiS ws = some xs) ∧ (ok = false → atoiS ws = none) := by
  have HN : Hid _ := hn
  have HW : Hid _ := hW
  have HS : Hid _ := hws
  have HA : Hid _ := hA
  clear hn hW hws hA
  obtain ⟨i0, hi, hz0, hz1, hz2⟩ := info_parts Tryd.infoInt
  go_enter Tryd.func32, Tryd.ntmps32
  go_wp2_with fail
  go_loopw [4, 6, 7, 8, 11] (fun v _ _ _ i wr => ∃ (k : Nat) (xs : List Int), k ≤ n ∧ i = .int .i64 k ∧ xs.length = k ∧ atoiS ws = (atoiS (ws.drop k)).map (xs ++ ·) ∧ JA w v xs wr) (fun _ _ _ _ i _ => n - (intOf i).toNat)
  case atStart => exact ⟨0, [], Nat.zero_le _, rfl, rfl, by simp, JA.nil w⟩
  case round =>
    obtain ⟨k, xs, hk, rfl, hxl, hxs, j⟩ := hrel
    have HXL : Hid _ := hxl
    have HXS : Hid _ := hxs
    clear hxl hxs
    have hjb := j.b.size
    by_cases hlt : k < n
    · obtain ⟨x, hx⟩ : ∃ x, ws[k]? = some x := ⟨_, List.getElem?_eq_getElem (by rw [HN.out]; exact hlt)⟩
      have hck : wr.cell? ⟨b, o + k, none⟩ = some (.string ⟨x.toArray⟩) := by
        rw [j.b.cell (p := ⟨b, o + k, none⟩) hb]; exact HW.out k x hx
      have hxlen : x.length ≤ 120 := HS.out x (List.mem_of_getElem? hx)
      have HX : Hid _ := hx
      clear hx
      go_wp2_with fail
      refine (HA.out wr j.b x hxlen).mono ?_
      rintro e w2 ⟨b2, hcase⟩
      rcases hcase with ⟨v, hv, rfl⟩ | ⟨hv, z, t, bb, rfl⟩
      · have HV : Hid _ := atoiS_drop HX.out hv HXS.out
        clear hv
        have j2 := j.below b2
        have jo := j2.o
        rw [HXL.out] at jo
        have hjb2 := j2.b.size
        clear b2 j
        go_wp2_with (at_builtin; go_must (refine wpList_append_lies _ rfl (.tmp 22) (.tmp 24) 24 rfl w.heap.size 3 i0 (.int .i64 0) 1 8 Tryd.underlying24 hi hz0 hz1 hz2 rfl (by decide) _ _ _ rfl (jo.alloc _) ⟨w2.heap.size, 0, none⟩ 1 1 [.int .i64 v] rfl rfl (news1 _ _ _) (one1 _ _) (by omega) (by unfold maxLen; omega) (by omega) (by rw [World.size_alloc]; omega) _ rfl ?_); intro g cp w3 hown hgrow hat hlt1)
        have j3 := j2.app HXL.out hown hgrow
        clear hown hgrow jo j2 hat
        go_wp2
        go_roundw
        case rel => exact ⟨k + 1, _, by omega, by go_num, by rw [List.length_append, HXL.out]; rfl, HV.out, j3⟩
        case measure => simp [intOf]; omega
      · have HV : Hid _ := atoiS_bad HX.out hv HXS.out
        have B2 := j.b.trans (b2.mono j.b.size)
        clear hv
        go_wp2
        refine bodyPost_ret (v := .tuple #[.slice none 0 0, .bool false]) (by simp [results, Tryd.results32, go_sem]) rfl ?_
        exact ⟨_, [], false, rfl, ⟨B2, World.ownsRow_nil _ _ _ _⟩, (fun h => by cases h), (fun _ => HV.out)⟩
    · obtain rfl : k = n := by omega
      have HV : Hid (atoiS ws = some xs) := by
        show _ = _
        rw [HXS.out, List.drop_of_length_le (by rw [HN.out]; exact Nat.le_refl _)]
        simp [atoiS]
      go_wp2
      refine bodyPost_ret (v := .tuple #[_, .bool true]) (by simp [results, Tryd.results32, go_sem]; rfl) rfl ?_
      exact ⟨_, xs, true, rfl, j, (fun _ => HV.out), (fun h => by cases h)⟩

end Go.Proofs.YtmdjcfplhmkocaaDoor
