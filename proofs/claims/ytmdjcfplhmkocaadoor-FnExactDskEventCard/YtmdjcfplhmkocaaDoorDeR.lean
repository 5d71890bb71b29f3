/-
  The kind of what happens by its first word, as the specification reads it.
-/
import Derived.Test.YtmdjcfplhmkocaaDoorDeS
import Derived.Test.YtmdjcfplhmkocaaDoorDeQ
namespace Go.Proofs.YtmdjcfplhmkocaaDoor
open Go.RowKit Go.MapKept
set_option linter.unusedVariables false
set_option linter.unusedSimpArgs false
set_option maxRecDepth 100000

def kd5 (x : List UInt8) : Int := if x = [102, 97, 108, 108] then 8 else if x = [114, 105, 115, 101] then 9 else 0
def kd4 (x : List UInt8) : Int := if [116, 119, 105, 99, 101] = x then 6 else kd5 x
def kd3 (x : List UInt8) : Int := if [108, 111, 115, 101] = x then 5 else kd4 x
def kd2 (x : List UInt8) : Int := if [98, 114, 105, 110, 103] = x then 4 else kd3 x
def kd1 (x : List UInt8) : Int := if [100, 101, 97, 102] = x then 3 else kd2 x
def kd0 (x : List UInt8) : Int := if [116, 114, 121] = x then 2 else kd1 x
def kindN (x : List UInt8) : Nat → Int
  | 0 => kd0 x
  | 1 => kd1 x
  | 2 => kd2 x
  | 3 => kd3 x
  | 4 => kd4 x
  | 5 => kd5 x
  | _ => 0
def kindL (x : List UInt8) : Int := kindN x 0

set_option maxHeartbeats 3200000 in
theorem skind_any (x : List UInt8) (w : World) :
    Calls Tryd.prog 20 #[.string ⟨x.toArray⟩] w fun e w' => e = .returned (.int .i64 (kindL x)) ∧ Below w.heap.size w w' := by
  have B0 : Below w.heap.size w (w.alloc (.cells #[.string ⟨#[116, 114, 121]⟩, .string ⟨#[100, 101, 97, 102]⟩, .string ⟨#[98, 114, 105, 110, 103]⟩, .string ⟨#[108, 111, 115, 101]⟩, .string ⟨#[116, 119, 105, 99, 101]⟩] 9)) := (Below.refl _ _).alloc (Nat.le_refl _) _
  have n0 := Cel.new w [.string ⟨#[116, 114, 121]⟩, .string ⟨#[100, 101, 97, 102]⟩, .string ⟨#[98, 114, 105, 110, 103]⟩, .string ⟨#[108, 111, 115, 101]⟩, .string ⟨#[116, 119, 105, 99, 101]⟩] 9
  go_enter Tryd.func20, Tryd.ntmps20
  go_wp2_with fail
  go_loopw [4] (fun i wr => ∃ k : Nat, k ≤ 5 ∧ i = .int .i64 k ∧ kindL x = kindN x k ∧ Below w.heap.size w wr ∧ Cel wr w.heap.size [.string ⟨#[116, 114, 121]⟩, .string ⟨#[100, 101, 97, 102]⟩, .string ⟨#[98, 114, 105, 110, 103]⟩, .string ⟨#[108, 111, 115, 101]⟩, .string ⟨#[116, 119, 105, 99, 101]⟩] 9) (fun i _ => 5 - (intOf i).toNat)
  case atStart => exact ⟨0, by omega, rfl, rfl, B0, n0⟩
  case round =>
    clear B0 n0
    obtain ⟨k, hk5, rfl, hK, bR, nR⟩ := hrel
    have HK : Hid _ := hK
    clear hK
    by_cases e0 : k = 0
    · subst e0
      have nm := nR.cell 0
      simp only [List.getElem?_cons_zero, List.getElem?_cons_succ] at nm
      by_cases he : x = [116, 114, 121]
      · have hE : ([116, 114, 121] == x) = true := by rw [he]; rfl
        have HC : Hid (kindL x = 2) := by show _ = _; rw [HK.out, kindN, kd0, if_pos he.symm]
        clear he
        go_wp2
        go_ret
        exact ⟨by rw [HC.out]; rfl, bR⟩
      · have hE : ([116, 114, 121] == x) = false := by simpa using fun e => he e.symm
        have HC : Hid (kindL x = kindN x 1) := by show _ = _; rw [HK.out, kindN, kd0, if_neg (fun e => he e.symm)]; rfl
        clear he
        go_wp2
        go_roundw
        case rel => exact ⟨1, by omega, by go_num, HC.out, bR, nR⟩
        case measure => simp [intOf]
    by_cases e1 : k = 1
    · subst e1
      have nm := nR.cell 1
      simp only [List.getElem?_cons_zero, List.getElem?_cons_succ] at nm
      by_cases he : x = [100, 101, 97, 102]
      · have hE : ([100, 101, 97, 102] == x) = true := by rw [he]; rfl
        have HC : Hid (kindL x = 3) := by show _ = _; rw [HK.out, kindN, kd1, if_pos he.symm]
        clear he
        go_wp2
        go_ret
        exact ⟨by rw [HC.out]; rfl, bR⟩
      · have hE : ([100, 101, 97, 102] == x) = false := by simpa using fun e => he e.symm
        have HC : Hid (kindL x = kindN x 2) := by show _ = _; rw [HK.out, kindN, kd1, if_neg (fun e => he e.symm)]; rfl
        clear he
        go_wp2
        go_roundw
        case rel => exact ⟨2, by omega, by go_num, HC.out, bR, nR⟩
        case measure => simp [intOf]
    by_cases e2 : k = 2
    · subst e2
      have nm := nR.cell 2
      simp only [List.getElem?_cons_zero, List.getElem?_cons_succ] at nm
      by_cases he : x = [98, 114, 105, 110, 103]
      · have hE : ([98, 114, 105, 110, 103] == x) = true := by rw [he]; rfl
        have HC : Hid (kindL x = 4) := by show _ = _; rw [HK.out, kindN, kd2, if_pos he.symm]
        clear he
        go_wp2
        go_ret
        exact ⟨by rw [HC.out]; rfl, bR⟩
      · have hE : ([98, 114, 105, 110, 103] == x) = false := by simpa using fun e => he e.symm
        have HC : Hid (kindL x = kindN x 3) := by show _ = _; rw [HK.out, kindN, kd2, if_neg (fun e => he e.symm)]; rfl
        clear he
        go_wp2
        go_roundw
        case rel => exact ⟨3, by omega, by go_num, HC.out, bR, nR⟩
        case measure => simp [intOf]
    by_cases e3 : k = 3
    · subst e3
      have nm := nR.cell 3
      simp only [List.getElem?_cons_zero, List.getElem?_cons_succ] at nm
      by_cases he : x = [108, 111, 115, 101]
      · have hE : ([108, 111, 115, 101] == x) = true := by rw [he]; rfl
        have HC : Hid (kindL x = 5) := by show _ = _; rw [HK.out, kindN, kd3, if_pos he.symm]
        clear he
        go_wp2
        go_ret
        exact ⟨by rw [HC.out]; rfl, bR⟩
      · have hE : ([108, 111, 115, 101] == x) = false := by simpa using fun e => he e.symm
        have HC : Hid (kindL x = kindN x 4) := by show _ = _; rw [HK.out, kindN, kd3, if_neg (fun e => he e.symm)]; rfl
        clear he
        go_wp2
        go_roundw
        case rel => exact ⟨4, by omega, by go_num, HC.out, bR, nR⟩
        case measure => simp [intOf]
    by_cases e4 : k = 4
    · subst e4
      have nm := nR.cell 4
      simp only [List.getElem?_cons_zero, List.getElem?_cons_succ] at nm
      by_cases he : x = [116, 119, 105, 99, 101]
      · have hE : ([116, 119, 105, 99, 101] == x) = true := by rw [he]; rfl
        have HC : Hid (kindL x = 6) := by show _ = _; rw [HK.out, kindN, kd4, if_pos he.symm]
        clear he
        go_wp2
        go_ret
        exact ⟨by rw [HC.out]; rfl, bR⟩
      · have hE : ([116, 119, 105, 99, 101] == x) = false := by simpa using fun e => he e.symm
        have HC : Hid (kindL x = kindN x 5) := by show _ = _; rw [HK.out, kindN, kd4, if_neg (fun e => he e.symm)]; rfl
        clear he
        go_wp2
        go_roundw
        case rel => exact ⟨5, by omega, by go_num, HC.out, bR, nR⟩
        case measure => simp [intOf]
    obtain rfl : k = 5 := by omega
    clear e0 e1 e2 e3 e4
    by_cases hf : x = [102, 97, 108, 108]
    · have hE : (x == [102, 97, 108, 108]) = true := by rw [hf]; rfl
      have HC : Hid (kindL x = 8) := by show _ = _; rw [HK.out, kindN, kd5, if_pos hf]
      clear hf
      go_wp2
      go_ret
      exact ⟨by rw [HC.out]; rfl, bR⟩
    · have hE : (x == [102, 97, 108, 108]) = false := by simpa using hf
      by_cases hr : x = [114, 105, 115, 101]
      · have hE2 : (x == [114, 105, 115, 101]) = true := by rw [hr]; rfl
        have HC : Hid (kindL x = 9) := by show _ = _; rw [HK.out, kindN, kd5, if_neg hf, if_pos hr]
        clear hf hr
        go_wp2
        go_ret
        exact ⟨by rw [HC.out]; rfl, bR⟩
      · have hE2 : (x == [114, 105, 115, 101]) = false := by simpa using hr
        have HC : Hid (kindL x = 0) := by show _ = _; rw [HK.out, kindN, kd5, if_neg hf, if_neg hr]
        clear hf hr
        go_wp2
        go_ret
        exact ⟨by rw [HC.out]; rfl, bR⟩

/-- What happens by a line: kind, place, act, arguments, and whether it is read. -/
def evX (x : List UInt8) (zs : List Int) : EvR :=
  if x = [99, 97, 108, 108] then callL zs else if x = [116, 105, 99, 107] then bareL 7 0 zs else if x = [99, 108, 101, 114, 107, 102, 97, 108, 108, 115] then bareL 10 0 zs else if x = [99, 108, 101, 114, 107, 114, 105, 115, 101, 115] then bareL 10 1 zs else if kindL x = 0 then noE else oneL (kindL x) zs
def evL (l : List UInt8) : EvR := match lineN l with | none => noE | some zs => evX ((wordsOf l).headD []) zs
theorem evL_none {l : List UInt8} (h : lineN l = none) : evL l = noE := by rw [evL, h]
theorem evL_some {l : List UInt8} {zs : List Int} (h : lineN l = some zs) : evL l = evX ((wordsOf l).headD []) zs := by rw [evL, h]

end Go.Proofs.YtmdjcfplhmkocaaDoor
