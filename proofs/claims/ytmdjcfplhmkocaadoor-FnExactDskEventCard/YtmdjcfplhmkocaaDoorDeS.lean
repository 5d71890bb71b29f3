/-
  What happens by a line, as the specification reads it.
-/
import Derived.Test.YtmdjcfplhmkocaaDoorDeI
namespace Go.Proofs.YtmdjcfplhmkocaaDoor
open Go.RowKit Go.MapKept
set_option linter.unusedVariables false
set_option maxRecDepth 100000

set_option maxHeartbeats 1600000 in
theorem sbare_any (a : Option Addr) (m cap n : Nat) (k t : Int) (zs : List Int) (w : World) (hn : zs.length = n) (hm : m = n + 1) :
    Calls Tryd.prog 19 #[.slice a m cap, evV k t 0 none 0 0] w (EvP (bareL k t zs) w) := by
  by_cases h0 : n = 0
  · rw [show bareL k t zs = (k, t, 0, [], true) from by rw [bareL, if_pos (by omega)]]
    obtain rfl : m = 1 := by omega
    clear hn hm
    go_enter Tryd.func19, Tryd.ntmps19
    go_wp2
    exact bodyPost_ret (v := .tuple #[evV k t 0 none 0 0, .bool true]) (by simp [results, Tryd.results19, go_sem]) rfl (EvP.plain (below2 _ _))
  · rw [show bareL k t zs = noE from by rw [bareL, if_neg (by omega)]]
    have hi : ¬ (m : Int) = 1 := by omega
    have hi2 : ((m : Int) == 1) = false := by simpa using hi
    go_enter Tryd.func19, Tryd.ntmps19
    go_wp2
    exact bodyPost_ret (v := .tuple #[evV 0 0 0 none 0 0, .bool false]) (by simp [results, Tryd.results19, go_sem]) rfl (EvP.no (below2 _ _))

set_option maxHeartbeats 1600000 in
theorem sone_any (a : Option Addr) (n cap : Nat) (k : Int) (zs : List Int) (w : World) (h : Ints w a n zs) :
    Calls Tryd.prog 21 #[.slice a n cap, .int .i64 k] w (EvP (oneL k zs) w) := by
  have hl : zs.length = n := h.1
  by_cases h1 : n = 1
  · subst h1
    have B0 : Below w.heap.size w (w.alloc (.cells #[.int .i64 0, .int .i64 0, .int .i64 0, .slice none 0 0] 26)) := (Below.refl _ _).alloc (Nat.le_refl _) _
    have hi := h.below B0
    obtain ⟨b, off, rfl, -⟩ := h.pos (by omega)
    have c0 := zs_at hi (i := 0) (by omega)
    obtain ⟨z, hz⟩ : ∃ z, zs[0]?.getD 0 = z := ⟨_, rfl⟩
    rw [hz, Nat.add_zero] at c0
    clear h hi B0
    by_cases hz0 : z < 0
    · rw [show oneL k zs = noE from by rw [oneL, if_neg (by rw [hz]; omega)]]
      clear hl hz
      go_enter Tryd.func21, Tryd.ntmps21
      go_wp2
      exact bodyPost_ret (v := .tuple #[evV 0 0 0 none 0 0, .bool false]) (by simp [results, Tryd.results21, go_sem]) rfl (EvP.no ((Below.refl _ _).alloc (Nat.le_refl _) _))
    · rw [show oneL k zs = (k, z, 0, [], true) from by rw [oneL, if_pos ⟨by omega, by rw [hz]; omega⟩, hz]]
      clear hl hz
      go_enter Tryd.func21, Tryd.ntmps21
      go_wp2
      exact bodyPost_ret (v := .tuple #[evV k z 0 none 0 0, .bool true]) (by simp [results, Tryd.results21, go_sem]) rfl (EvP.plain ((Below.refl _ _).alloc (Nat.le_refl _) _))
  · rw [show oneL k zs = noE from by rw [oneL, if_neg (by omega)]]
    have hi : ¬ (n : Int) = 1 := by omega
    have hi2 : ((n : Int) == 1) = false := by simpa using hi
    clear h hl
    go_enter Tryd.func21, Tryd.ntmps21
    go_wp2
    exact bodyPost_ret (v := .tuple #[evV 0 0 0 none 0 0, .bool false]) (by simp [results, Tryd.results21, go_sem]) rfl (EvP.no ((Below.refl _ _).alloc (Nat.le_refl _) _))

theorem nmS_step {ws : List (List UInt8)} {k : Nat} {x : List UInt8} {xs : List Int} (hk : ws[k]? = some x) (h1 : 1 ≤ k) (hx : (numL x).2 = true) (h : nmS (ws.drop 1) = (nmS (ws.drop k)).map (xs ++ ·)) : nmS (ws.drop 1) = (nmS (ws.drop (k + 1))).map ((xs ++ [(numL x).1]) ++ ·) := by
  have e : (ws.drop 1)[k - 1]? = some x := by rw [List.getElem?_drop, show 1 + (k - 1) = k by omega]; exact hk
  have := nmS_drop (ws := ws.drop 1) (k := k - 1) (xs := xs) e hx (by rw [List.drop_drop, show 1 + (k - 1) = k by omega]; exact h)
  rw [List.drop_drop, show 1 + (k - 1 + 1) = k + 1 by omega] at this
  exact this
theorem nmS_bad1 {ws : List (List UInt8)} {k : Nat} {x : List UInt8} {xs : List Int} (hk : ws[k]? = some x) (h1 : 1 ≤ k) (hx : ¬ (numL x).2 = true) (h : nmS (ws.drop 1) = (nmS (ws.drop k)).map (xs ++ ·)) : nmS (ws.drop 1) = none := by
  have e : (ws.drop 1)[k - 1]? = some x := by rw [List.getElem?_drop, show 1 + (k - 1) = k by omega]; exact hk
  exact nmS_bad (ws := ws.drop 1) (k := k - 1) (xs := xs) e hx (by rw [List.drop_drop, show 1 + (k - 1) = k by omega]; exact h)
set_option maxHeartbeats 3200000 in
theorem snums_any (ws : List (List UInt8)) (g n cap : Nat) (w : World) (hn : ws.length = n) (hn1 : n ≤ 121) (hb : n = 0 ∨ g < w.heap.size) (hW : ∀ (i : Nat) (x : List UInt8), ws[i]? = some x → w.cell? ⟨g, i, none⟩ = some (.string ⟨x.toArray⟩)) (hws : ∀ x ∈ ws, x.length ≤ 120) :
    Calls Tryd.prog 18 #[.slice (some ⟨g, 0, none⟩) n cap] w fun e w' => ∃ v xs ok, e = .returned (.tuple #[v, .bool ok]) ∧ JA w v xs w' ∧ (ok = true → nmS (ws.drop 1) = some xs) ∧ (ok = false → nmS (ws.drop 1) = none) := by
  have HN : Hid _ := hn
  have HW : Hid _ := hW
  have HS : Hid _ := hws
  clear hn hW hws
  obtain ⟨i0, hi, hz0, hz1, hz2⟩ := info_parts Tryd.infoInt
  go_enter Tryd.func18, Tryd.ntmps18
  go_wp2_with fail
  go_loopw [4, 5, 6, 7] (fun v i _ _ wr => ∃ (k : Nat) (xs : List Int), 1 ≤ k ∧ (k ≤ n ∨ k = 1) ∧ i = .int .i64 k ∧ xs.length + 1 = k ∧ nmS (ws.drop 1) = (nmS (ws.drop k)).map (xs ++ ·) ∧ JA w v xs wr) (fun _ i _ _ _ => n - (intOf i).toNat)
  case atStart => exact ⟨1, [], by omega, Or.inr rfl, rfl, rfl, by simp, JA.lit w⟩
  case round =>
    obtain ⟨k, xs, hk1, hk, rfl, hxl, hxs, j⟩ := hrel
    have HXL : Hid _ := hxl
    have HXS : Hid _ := hxs
    clear hxl hxs
    have hjb := j.b.size
    by_cases hlt : k < n
    · obtain ⟨x, hx⟩ : ∃ x, ws[k]? = some x := ⟨_, List.getElem?_eq_getElem (by rw [HN.out]; exact hlt)⟩
      have hck : wr.cell? ⟨g, k, none⟩ = some (.string ⟨x.toArray⟩) := by
        rw [j.b.cell (p := ⟨g, k, none⟩) (hb.resolve_left (by omega))]; exact HW.out k x hx
      have hxlen : x.length ≤ 120 := HS.out x (List.mem_of_getElem? hx)
      have HX : Hid (ws[k]? = some x) := hx
      clear hx
      go_wp2_with fail
      refine (num_any x _ hxlen).mono ?_
      rintro e w2 ⟨rfl, rfl⟩
      by_cases hx : (numL x).2 = true
      · have HV : Hid _ := nmS_step HX.out hk1 hx HXS.out
        rw [hx]
        generalize HZ : (numL x).1 = z at HV
        clear HZ hx
        have jo := j.o
        rw [show xs.length = k - 1 by have := HXL.out; omega] at jo
        go_wp2_with (at_builtin; go_must (refine wpList_append_lies _ rfl (.tmp 26) (.tmp 28) 24 rfl w.heap.size 3 i0 (.int .i64 0) 1 8 Tryd.underlying24 hi hz0 hz1 hz2 rfl (by decide) _ _ _ rfl (jo.alloc _) ⟨w2.heap.size, 0, none⟩ 1 1 [.int .i64 z] rfl rfl (news1 _ _ _) (one1 _ _) (by omega) (by unfold maxLen; omega) (by omega) (by rw [World.size_alloc]; omega) _ rfl ?_); intro gg cp w3 hown hgrow hat hlt1)
        have j3 := j.app (by have := HXL.out; omega) hown hgrow
        rw [show k - 1 + 1 = k by omega] at j3
        clear hown hgrow jo j hat
        go_wp2
        go_roundw
        case rel => exact ⟨k + 1, _, by omega, by omega, by go_num, by rw [List.length_append, ← HXL.out]; simp, HV.out, j3⟩
        case measure => simp [intOf]; omega
      · have HV : Hid (nmS (ws.drop 1) = none) := nmS_bad1 HX.out hk1 hx HXS.out
        have hf : (numL x).2 = false := by cases h : (numL x).2 with
          | true => exact absurd h hx
          | false => rfl
        rw [hf]
        have JL : JA w (.slice (some ⟨w2.heap.size, 0, none⟩) 0 0) [] (w2.alloc (.cells #[] 3)) := ⟨j.b.alloc j.b.size _, World.ownsRow_lit w2 #[] 0 j.b.size (by unfold maxLen; omega) rfl⟩
        go_wp2
        refine bodyPost_ret (v := .tuple #[.slice (some ⟨w2.heap.size, 0, none⟩) 0 0, .bool false]) (by simp [results, Tryd.results18, go_sem]) rfl ?_
        exact ⟨_, [], false, rfl, JL, (fun h => by cases h), (fun _ => HV.out)⟩
    · have HV : Hid (nmS (ws.drop 1) = some xs) := by
        show _ = _
        rw [HXS.out, List.drop_of_length_le (by rw [HN.out]; omega)]
        simp [nmS]
      go_wp2
      refine bodyPost_ret (v := .tuple #[_, .bool true]) (by simp [results, Tryd.results18, go_sem]; rfl) rfl ?_
      exact ⟨_, xs, true, rfl, j, (fun _ => HV.out), (fun h => by cases h)⟩

end Go.Proofs.YtmdjcfplhmkocaaDoor
