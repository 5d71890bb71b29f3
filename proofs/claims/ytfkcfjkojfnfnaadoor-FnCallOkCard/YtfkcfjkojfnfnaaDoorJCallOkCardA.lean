/-
  Lemmas that the claim's last text rests on: Txt, CallT, Shelf, TxtI, Twn, CallI, CallOkW.
-/
import Derived.Test.YtfkcfjkojfnfnaaDoorDig
import Derived.Test.YtfkcfjkojfnfnaaDoorResP
import Derived.Lib.Join
import Derived.Test.YtfkcfjkojfnfnaaDoorCallP
import Derived.Test.YtfkcfjkojfnfnaaDoorKeyed
import Derived.Deep.DeepCutAuto
import Derived.Shelf.Strings.OnBuilder
import Derived.Shelf.LaysM
import Derived.Shelf.Strconv.Itoa3
import Derived.Ground.Names2Prog
import Derived.Ground.SlgnProg
import Derived.Test.YtfkcfjkojfnfnaaDoorProg
import Derived.Deep.AppendLies
import Derived.Lib.AppendIntMem
import Derived.Test.YtfkcfjkojfnfnaaDoorTk
import Derived.Test.YtfkcfjkojfnfnaaDoorPlanW
namespace Go.Proofs.YtfkcfjkojfnfnaaDoor
open Go.RowKit
set_option linter.unusedVariables false
set_option maxRecDepth 100000

def wordL (c : Int) : List UInt8 := if c = 1 then [100, 111, 110, 101] else if c = 2 then [115, 116, 111, 112, 112, 101, 100] else if c = 3 then [111, 118, 101, 114] else []
def tailL (zs : List Int) : List UInt8 := Lib.joinTail [32] (zs.map Lib.itoa)
def resOkB (c : Int) (n : Nat) (zs : List Int) : Bool := inB c 1 3 && (decide (c = 1 ∨ n = 0) && (decide (n ≤ 6) && allB 999999999999 zs))
def resText (c : Int) (n : Nat) (zs : List Int) : List UInt8 := if resOkB c n zs = true then wordL c ++ tailL zs else []
theorem tail_step {zs : List Int} {k : Nat} (h : k < zs.length) : tailL (zs.take (k + 1)) = tailL (zs.take k) ++ ([32] ++ Lib.itoa (zs[k]?.getD 0)) := by
  unfold tailL Lib.joinTail
  rw [List.take_succ_eq_append_getElem h, List.getElem?_eq_getElem h, List.map_append, List.map_append, List.flatten_append]
  simp only [List.map_cons, List.map_nil, List.flatten_cons, List.flatten_nil, List.append_nil, Option.getD_some]
theorem tail_nil : tailL [] = [] := rfl
theorem tail_end {zs : List Int} {k : Nat} (h : zs.length ≤ k) : tailL (zs.take k) = tailL zs := by rw [List.take_of_length_le h]
theorem resText_no {c : Int} {n : Nat} {zs : List Int} (h : resOkB c n zs = false) : resText c n zs = [] := by rw [resText, h]; rfl
theorem resText_yes {c : Int} {n : Nat} {zs : List Int} (h : resOkB c n zs = true) : resText c n zs = wordL c ++ tailL zs := by rw [resText, if_pos h]
theorem word_len (c : Int) : (wordL c).length ≤ 7 := by
  unfold wordL
  split
  · decide
  · split
    · decide
    · split <;> decide

theorem allB_bnd' {m : Int} {zs : List Int} (hm : 0 ≤ m) (h : allB m zs = true) : ∀ i : Nat, -m ≤ zs[i]?.getD 0 ∧ zs[i]?.getD 0 ≤ m := by
  intro i
  by_cases hi : i < zs.length
  · unfold allB at h
    rw [List.all_eq_true] at h
    have := inB_iff.1 (h zs[i] (List.getElem_mem hi))
    rw [List.getElem?_eq_getElem hi]
    simpa using this
  · rw [List.getElem?_eq_none (by omega)]
    simp; omega

theorem ret_str {a b : List UInt8} (h : a = b) : Ending.returned (.string ⟨a.toArray⟩) = .returned (.string ⟨b.toArray⟩) := by rw [h]

set_option maxHeartbeats 1600000 in
theorem stext_any (c : Int) (a : Option Addr) (n cap : Nat) (zs : List Int) (w : World) (hC : Ints w a n zs) (hn : n ≤ 1048576) :
    Calls Tryd.prog 21 #[resP c a n cap] w fun e w' => e = .returned (.string ⟨(resText c n zs).toArray⟩) ∧ Below w.heap.size w w' := by
  have HL : Hid (zs.length = n) := hC.1
  have B0 := ((Below.refl w.heap.size w).alloc (Nat.le_refl _) (.cells #[.int .i64 c, .slice a n cap] 36)).alloc (by simp) (.cells #[.string ⟨#[]⟩, .string ⟨#[100, 111, 110, 101]⟩, .string ⟨#[115, 116, 111, 112, 112, 101, 100]⟩, .string ⟨#[111, 118, 101, 114]⟩] 9)
  cases h1 : inB c 1 3
  · have HR : Hid _ := resText_no (c := c) (n := n) (zs := zs) (by simp [resOkB, h1])
    go_enter Tryd.func21, Tryd.ntmps21
    go_wp2_with fail
    refine (in_any _ _ _ _).mono ?_
    rintro e w1 ⟨rfl, rfl⟩
    rw [h1]
    go_wp2
    go_ret
    exact ⟨by rw [HR.out]; rfl, B0⟩
  have c13 := inB_iff.1 h1
  have H1 : Hid _ := h1
  by_cases h2 : c = 1 ∨ n = 0
  · by_cases h3 : n ≤ 6
    · cases h4 : allB 999999999999 zs
      · have h4' : okN (n : Int) 999999999999 n zs = false := by rw [okN_is rfl, h4]
        have HR : Hid _ := resText_no (c := c) (n := n) (zs := zs) (by simp [resOkB, h4])
        rcases h2 with rfl | rfl
        · go_enter Tryd.func21, Tryd.ntmps21
          go_wp2_with fail
          refine (in_any _ _ _ _).mono ?_
          rintro e w1 ⟨rfl, rfl⟩
          rw [h1]
          go_wp2_with fail
          refine (all_any _ _ _ zs _ _ _ (hC.below B0) hn (by omega) (by omega)).mono ?_
          rintro e w1 ⟨rfl, rfl⟩
          rw [h4']
          go_wp2
          go_ret
          exact ⟨by rw [HR.out]; rfl, B0⟩
        · exfalso
          have : zs = [] := List.eq_nil_of_length_eq_zero HL.out
          subst this
          cases h4
      · have H4 : Hid (okN (n : Int) 999999999999 n zs = true) := by show _ = _; rw [okN_is rfl, h4]
        have HR : Hid _ := resText_yes (c := c) (n := n) (zs := zs) (by simp [resOkB, h1, h2, h3, h4])
        have BZ : Hid (∀ i : Nat, -999999999999 ≤ zs[i]?.getD 0 ∧ zs[i]?.getD 0 ≤ 999999999999) := allB_bnd' (by omega) h4
        clear h1 h4
        by_cases e1 : c = 1
        · subst e1
          clear h2
          go_enter Tryd.func21, Tryd.ntmps21
          go_wp2_with fail
          refine (in_any _ _ _ _).mono ?_
          rintro e w1 ⟨rfl, rfl⟩
          rw [H1.out]
          go_wp2_with fail
          refine (all_any _ _ _ zs _ _ _ (hC.below B0) hn (by omega) (by omega)).mono ?_
          rintro e w1 ⟨rfl, rfl⟩
          rw [H4.out]
          obtain ⟨W, hW⟩ : ∃ W, W = (w.alloc (.cells #[.int .i64 1, .slice a n cap] 36)).alloc (.cells #[.string ⟨#[]⟩, .string ⟨#[100, 111, 110, 101]⟩, .string ⟨#[115, 116, 111, 112, 112, 101, 100]⟩, .string ⟨#[111, 118, 101, 114]⟩] 9) := ⟨_, rfl⟩
          have bx : Cel W w.heap.size [.int .i64 1, .slice a n cap] 36 := by rw [hW]; exact (Cel.new w _ _).alloc _
          have wd : Cel W (w.heap.size + 1) [.string ⟨#[]⟩, .string ⟨#[100, 111, 110, 101]⟩, .string ⟨#[115, 116, 111, 112, 112, 101, 100]⟩, .string ⟨#[111, 118, 101, 114]⟩] 9 := by rw [hW]; have := Cel.new (w.alloc (.cells #[.int .i64 1, .slice a n cap] 36)) [.string ⟨#[]⟩, .string ⟨#[100, 111, 110, 101]⟩, .string ⟨#[115, 116, 111, 112, 112, 101, 100]⟩, .string ⟨#[111, 118, 101, 114]⟩] 9; rwa [World.size_alloc] at this
          rw [← hW] at B0 ⊢
          clear hW
          have k0 := bx.cell 0
          have k1 := bx.cell 1
          have k2 := wd.cell 1
          simp only [List.getElem?_cons_zero, List.getElem?_cons_succ] at k0 k1 k2
          have hW := hC.below B0
          clear hC wd
          go_wp2_with fail
          go_loopw [4, 5] (fun s i wr => ∃ (k : Nat) (L : List UInt8), k ≤ n ∧ i = .int .i64 k ∧ s = .string ⟨L.toArray⟩ ∧ L = wordL 1 ++ tailL (zs.take k) ∧ L.length ≤ 7 + 22 * k ∧ Below W.heap.size W wr) (fun _ i _ => n - (intOf i).toNat)
          case atStart => exact ⟨0, wordL 1, Nat.zero_le _, rfl, rfl, by simp [tail_nil], by decide, Below.refl _ _⟩
          case round =>
            obtain ⟨k, L, hk, rfl, rfl, hL, hlen, hb⟩ := hrel
            have HLL : Hid _ := hL
            clear hL
            have hlen' : L.length ≤ 1000 := by omega
            have kk1 := (bx.below hb).cell 1
            simp only [List.getElem?_cons_zero, List.getElem?_cons_succ] at kk1
            by_cases hlt : k < n
            · obtain ⟨b, off, rfl, hcell⟩ := (hW.below hb).pos (by omega)
              have hck : wr.cell? ⟨b, off + k, none⟩ = some (.int .i64 (zs[k]?.getD 0)) := by rw [hcell k hlt]; simp
              have HT : Hid _ := tail_step (zs := zs) (k := k) (by rw [HL.out]; exact hlt)
              have hz := BZ.out k
              generalize HG : zs[k]?.getD 0 = z at *
              clear HG hcell
              obtain ⟨z1, z2⟩ := hz
              have hI := Lib.itoa_length_le z (by omega) (by omega)
              generalize HGI : Lib.itoa z = I at *
              have HGI' : Hid _ := HGI
              clear HGI
              go_wp2_with fail
              refine (digits_any z _ (by omega) (by omega)).mono ?_
              rintro e w2 ⟨rfl, b2⟩
              rw [HGI'.out]
              go_wp2
              go_roundw
              case rel => exact ⟨k + 1, L ++ [32] ++ I, by omega, by go_num, by rw [show (⟨#[32]⟩ : ByteArray) = ⟨[32].toArray⟩ from rfl, cat_str, cat_str], by rw [HT.out, HLL.out, List.append_assoc, List.append_assoc], by rw [List.length_append, List.length_append, List.length_cons, List.length_nil]; omega, hb.trans (b2.mono hb.size)⟩
              case measure => simp [intOf]; omega
            · go_wp2
              go_ret
              exact ⟨by rw [HR.out, HLL.out, tail_end (by rw [HL.out]; omega)]; rfl, B0.trans (hb.mono B0.size)⟩
        · have hn0 : n ≤ 0 := by omega
          clear h2
          by_cases e2 : c = 2
          · subst e2
            go_enter Tryd.func21, Tryd.ntmps21
            go_wp2_with fail
            refine (in_any _ _ _ _).mono ?_
            rintro e w1 ⟨rfl, rfl⟩
            rw [H1.out]
            go_wp2_with fail
            refine (all_any _ _ _ zs _ _ _ (hC.below B0) hn (by omega) (by omega)).mono ?_
            rintro e w1 ⟨rfl, rfl⟩
            rw [H4.out]
            obtain ⟨W, hW⟩ : ∃ W, W = (w.alloc (.cells #[.int .i64 2, .slice a n cap] 36)).alloc (.cells #[.string ⟨#[]⟩, .string ⟨#[100, 111, 110, 101]⟩, .string ⟨#[115, 116, 111, 112, 112, 101, 100]⟩, .string ⟨#[111, 118, 101, 114]⟩] 9) := ⟨_, rfl⟩
            have bx : Cel W w.heap.size [.int .i64 2, .slice a n cap] 36 := by rw [hW]; exact (Cel.new w _ _).alloc _
            have wd : Cel W (w.heap.size + 1) [.string ⟨#[]⟩, .string ⟨#[100, 111, 110, 101]⟩, .string ⟨#[115, 116, 111, 112, 112, 101, 100]⟩, .string ⟨#[111, 118, 101, 114]⟩] 9 := by rw [hW]; have := Cel.new (w.alloc (.cells #[.int .i64 2, .slice a n cap] 36)) [.string ⟨#[]⟩, .string ⟨#[100, 111, 110, 101]⟩, .string ⟨#[115, 116, 111, 112, 112, 101, 100]⟩, .string ⟨#[111, 118, 101, 114]⟩] 9; rwa [World.size_alloc] at this
            rw [← hW] at B0 ⊢
            clear hW
            have k0 := bx.cell 0
            have k1 := bx.cell 1
            have k2 := wd.cell 2
            simp only [List.getElem?_cons_zero, List.getElem?_cons_succ] at k0 k1 k2
            have hW := hC.below B0
            clear hC wd
            go_wp2_with fail
            go_loopw [4, 5] (fun s i wr => ∃ (k : Nat) (L : List UInt8), k ≤ n ∧ i = .int .i64 k ∧ s = .string ⟨L.toArray⟩ ∧ L = wordL 2 ++ tailL (zs.take k) ∧ L.length ≤ 7 + 22 * k ∧ Below W.heap.size W wr) (fun _ i _ => n - (intOf i).toNat)
            case atStart => exact ⟨0, wordL 2, Nat.zero_le _, rfl, rfl, by simp [tail_nil], by decide, Below.refl _ _⟩
            case round =>
              obtain ⟨k, L, hk, rfl, rfl, hL, hlen, hb⟩ := hrel
              have HLL : Hid _ := hL
              clear hL
              have hlen' : L.length ≤ 1000 := by omega
              have kk1 := (bx.below hb).cell 1
              simp only [List.getElem?_cons_zero, List.getElem?_cons_succ] at kk1
              by_cases hlt : k < n
              · exfalso; omega
              · go_wp2
                go_ret
                exact ⟨by rw [HR.out, HLL.out, tail_end (by rw [HL.out]; omega)]; rfl, B0.trans (hb.mono B0.size)⟩
          · obtain rfl : c = 3 := by omega
            go_enter Tryd.func21, Tryd.ntmps21
            go_wp2_with fail
            refine (in_any _ _ _ _).mono ?_
            rintro e w1 ⟨rfl, rfl⟩
            rw [H1.out]
            go_wp2_with fail
            refine (all_any _ _ _ zs _ _ _ (hC.below B0) hn (by omega) (by omega)).mono ?_
            rintro e w1 ⟨rfl, rfl⟩
            rw [H4.out]
            obtain ⟨W, hW⟩ : ∃ W, W = (w.alloc (.cells #[.int .i64 3, .slice a n cap] 36)).alloc (.cells #[.string ⟨#[]⟩, .string ⟨#[100, 111, 110, 101]⟩, .string ⟨#[115, 116, 111, 112, 112, 101, 100]⟩, .string ⟨#[111, 118, 101, 114]⟩] 9) := ⟨_, rfl⟩
            have bx : Cel W w.heap.size [.int .i64 3, .slice a n cap] 36 := by rw [hW]; exact (Cel.new w _ _).alloc _
            have wd : Cel W (w.heap.size + 1) [.string ⟨#[]⟩, .string ⟨#[100, 111, 110, 101]⟩, .string ⟨#[115, 116, 111, 112, 112, 101, 100]⟩, .string ⟨#[111, 118, 101, 114]⟩] 9 := by rw [hW]; have := Cel.new (w.alloc (.cells #[.int .i64 3, .slice a n cap] 36)) [.string ⟨#[]⟩, .string ⟨#[100, 111, 110, 101]⟩, .string ⟨#[115, 116, 111, 112, 112, 101, 100]⟩, .string ⟨#[111, 118, 101, 114]⟩] 9; rwa [World.size_alloc] at this
            rw [← hW] at B0 ⊢
            clear hW
            have k0 := bx.cell 0
            have k1 := bx.cell 1
            have k2 := wd.cell 3
            simp only [List.getElem?_cons_zero, List.getElem?_cons_succ] at k0 k1 k2
            have hW := hC.below B0
            clear hC wd
            go_wp2_with fail
            go_loopw [4, 5] (fun s i wr => ∃ (k : Nat) (L : List UInt8), k ≤ n ∧ i = .int .i64 k ∧ s = .string ⟨L.toArray⟩ ∧ L = wordL 3 ++ tailL (zs.take k) ∧ L.length ≤ 7 + 22 * k ∧ Below W.heap.size W wr) (fun _ i _ => n - (intOf i).toNat)
            case atStart => exact ⟨0, wordL 3, Nat.zero_le _, rfl, rfl, by simp [tail_nil], by decide, Below.refl _ _⟩
            case round =>
              obtain ⟨k, L, hk, rfl, rfl, hL, hlen, hb⟩ := hrel
              have HLL : Hid _ := hL
              clear hL
              have hlen' : L.length ≤ 1000 := by omega
              have kk1 := (bx.below hb).cell 1
              simp only [List.getElem?_cons_zero, List.getElem?_cons_succ] at kk1
              by_cases hlt : k < n
              · exfalso; omega
              · go_wp2
                go_ret
                exact ⟨by rw [HR.out, HLL.out, tail_end (by rw [HL.out]; omega)]; rfl, B0.trans (hb.mono B0.size)⟩
    · have HR : Hid _ := resText_no (c := c) (n := n) (zs := zs) (by simp [resOkB, h3])
      obtain rfl : c = 1 := by omega
      go_enter Tryd.func21, Tryd.ntmps21
      go_wp2_with fail
      refine (in_any _ _ _ _).mono ?_
      rintro e w1 ⟨rfl, rfl⟩
      rw [h1]
      go_wp2
      go_ret
      exact ⟨by rw [HR.out]; rfl, B0⟩
  · have HR : Hid _ := resText_no (c := c) (n := n) (zs := zs) (by simp [resOkB, h2])
    have hc1 : (c != 1) = true := by simp; omega
    have hn0 : (0 : Int) < n := by omega
    go_enter Tryd.func21, Tryd.ntmps21
    go_wp2_with fail
    refine (in_any _ _ _ _).mono ?_
    rintro e w1 ⟨rfl, rfl⟩
    rw [h1]
    go_wp2
    go_ret
    exact ⟨by rw [HR.out]; rfl, B0⟩

end Go.Proofs.YtfkcfjkojfnfnaaDoor
namespace Go.Proofs.YtfkcfjkojfnfnaaDoor
open Go.RowKit Go.Deep
set_option linter.unusedVariables false
set_option maxRecDepth 100000

def callOkB (cl sq ac : Int) (n : Nat) (zs : List Int) : Bool := inB cl 0 3 && (inB sq 1 300 && (inB ac 0 3 && okN 2 9 n zs))
def wClient : List UInt8 := [99, 108, 105, 101, 110, 116]
def wCall : List UInt8 := [99, 97, 108, 108]
def wAct : List UInt8 := [97, 99, 116]
def wWith : List UInt8 := [119, 105, 116, 104]
def callL (cl sq ac : Int) (zs : List Int) : List UInt8 := wClient ++ ([32] ++ (Lib.itoa cl ++ ([32] ++ (wCall ++ ([32] ++ (Lib.itoa sq ++ ([32] ++ (wAct ++ ([32] ++ (Lib.itoa ac ++ ([32] ++ (wWith ++ tailL zs))))))))))))
def callText (cl sq ac : Int) (n : Nat) (zs : List Int) : List UInt8 := if callOkB cl sq ac n zs = true then callL cl sq ac zs else []
theorem callText_no {cl sq ac : Int} {n : Nat} {zs : List Int} (h : callOkB cl sq ac n zs = false) : callText cl sq ac n zs = [] := by rw [callText, h]; rfl
theorem callText_yes {cl sq ac : Int} {n : Nat} {zs : List Int} (h : callOkB cl sq ac n zs = true) : callText cl sq ac n zs = callL cl sq ac zs := by rw [callText, if_pos h]
theorem two_of {zs : List Int} (h : zs.length = 2) : zs = [zs[0]?.getD 0, zs[1]?.getD 0] := by
  match zs, h with
  | [x, y], _ => rfl
theorem tail_two (x y : Int) : tailL [x, y] = [32] ++ (Lib.itoa x ++ ([32] ++ Lib.itoa y)) := by
  simp [tailL, Lib.joinTail]

end Go.Proofs.YtfkcfjkojfnfnaaDoor
namespace Go.Proofs
open Go.Shelf
def Tryd.lays156_ren : Go.Shelf.Ren := ⟨fun | 156 => 79 | 165 => 100 | 166 => 101 | 169 => 102 | 240 => 117 | 241 => 118 | 276 => 131 | 277 => 132 | n => n, fun | 31 => 69 | 9 => 9 | 3 => 3 | 4 => 4 | 0 => 0 | 20 => 20 | 72 => 136 | 76 => 114 | 70 => 134 | 37 => 22 | 75 => 113 | 127 => 155 | 164 => 167 | 5 => 5 | 80 => 66 | n => n, fun | n => n⟩
theorem Tryd.lays156 : Go.Proofs.Lays.n156 Tryd.prog Tryd.lays156_ren := {
  mixed := by kernel_rfl
  f156 := Tryd.func79.trans (congrArg some (by kernel_rfl))
  f165 := Tryd.func100.trans (congrArg some (by kernel_rfl))
  f166 := Tryd.func101.trans (congrArg some (by kernel_rfl))
  f169 := Tryd.func102.trans (congrArg some (by kernel_rfl))
  f240 := Tryd.func117.trans (congrArg some (by kernel_rfl))
  f241 := Tryd.func118.trans (congrArg some (by kernel_rfl))
  f276 := Tryd.func131.trans (congrArg some (by kernel_rfl))
  f277 := Tryd.func132.trans (congrArg some (by kernel_rfl))
  t0 := Tryd.underlying0
  a0 := Tryd.isAgg0
  z0 := Tryd.sizeOf0
  v0 := Tryd.zeroValue0
  t3 := Tryd.underlying3
  a3 := Tryd.isAgg3
  z3 := Tryd.sizeOf3
  v3 := Tryd.zeroValue3
  t4 := Tryd.underlying4
  a4 := Tryd.isAgg4
  z4 := Tryd.sizeOf4
  v4 := Tryd.zeroValue4
  t9 := Tryd.underlying9
  a9 := Tryd.isAgg9
  z9 := Tryd.sizeOf9
  v9 := Tryd.zeroValue9
  t20 := Tryd.underlying20
  a20 := Tryd.isAgg20
  z20 := Tryd.sizeOf20
  v20 := Tryd.zeroValue20
  t31 := Tryd.underlying69
  a31 := Tryd.isAgg69
  z31 := Tryd.sizeOf69
  v31 := Tryd.zeroValue69
  t37 := Tryd.underlying22
  a37 := Tryd.isAgg22
  z37 := Tryd.sizeOf22
  v37 := Tryd.zeroValue22
  t70 := Tryd.underlying134
  a70 := Tryd.isAgg134
  z70 := Tryd.sizeOf134
  v70 := Tryd.zeroValue134
  t72 := Tryd.underlying136
  a72 := Tryd.isAgg136
  z72 := Tryd.sizeOf136
  v72 := Tryd.zeroValue136
  t75 := Tryd.underlying113
  a75 := Tryd.isAgg113
  z75 := Tryd.sizeOf113
  v75 := Tryd.zeroValue113
  t76 := Tryd.underlying114
  a76 := Tryd.isAgg114
  z76 := Tryd.sizeOf114
  v76 := Tryd.zeroValue114
  t127 := Tryd.underlying155
  a127 := Tryd.isAgg155
  z127 := Tryd.sizeOf155
  v127 := Tryd.zeroValue155
  t164 := Tryd.underlying167
  a164 := Tryd.isAgg167
  z164 := Tryd.sizeOf167
  v164 := Tryd.zeroValue167 }
theorem Tryd.Builder_Extra_156 : Builder.Extra Tryd.prog Tryd.lays156_ren := {
  sizeBuilder := by kernel_rfl
  liesBuilder := by kernel_rfl
  t5 := Tryd.underlying5
  a5 := Tryd.isAgg5
  z5 := Tryd.sizeOf5
  v5 := Tryd.zeroValue5
  infoByte := by kernel_rfl
  cellsByte := by kernel_rfl
  sizeByte := by kernel_rfl
  neB5 := by decide }
open Go.RowKit in
theorem Tryd.strings_Join_none (a : Option Addr) (c : Nat) (sep : ByteArray) (w : World) :
    Calls Tryd.prog 79 #[.slice a 0 c, .string sep] w fun e w' => e = .returned (.string ⟨#[]⟩) ∧ w' = w := Any.strings_Join_none Tryd.lays156 Tryd.Builder_Extra_156 a c sep w
open Go.RowKit in
theorem Tryd.strings_Join (bk o c : Nat) (xs : List ByteArray) (sep : ByteArray) (w : World) (hcells : ∀ (j : Nat) x, xs[j]? = some x → w.cell? ⟨bk, o + j, none⟩ = some (.string x)) (hbk : bk < w.heap.size) (hN : xs.length ≤ 140737488355328) (hcap : xs.length ≤ c) (hlen : (Lib.join (xs.map (·.data.toList)) sep.data.toList).length ≤ 140737488355328) :
    Calls Tryd.prog 79 #[.slice (some ⟨bk, o, none⟩) xs.length c, .string sep] w fun e w' => e = .returned (.string ⟨(Lib.join (xs.map (·.data.toList)) sep.data.toList).toArray⟩) ∧ Below w.heap.size w w' := Any.strings_Join Tryd.lays156 Tryd.Builder_Extra_156 bk o c xs sep w hcells hbk hN hcap hlen
def Tryd.laysM171_ren : Go.Shelf.Ren := ⟨fun | 171 => 83 | 243 => 103 | 246 => 119 | 283 => 133 | 284 => 134 | 285 => 135 | 286 => 136 | 129 => 146 | 317 => 145 | 318 => 147 | 319 => 148 | 320 => 149 | 337 => 154 | 338 => 155 | n => n, fun | 3 => 3 | 9 => 9 | 2 => 2 | 4 => 4 | 171 => 170 | 0 => 0 | 53 => 171 | 37 => 22 | 5 => 5 | 173 => 174 | 212 => 184 | 51 => 185 | 20 => 20 | 213 => 186 | 46 => 178 | 232 => 201 | 233 => 202 | n => n, fun | 17 => 3 | 18 => 6 | 19 => 7 | n => n⟩
theorem Tryd.laysM171 : Go.Proofs.LaysM.n171 Tryd.prog Tryd.laysM171_ren := {
  mixed := by kernel_rfl
  f129 := Tryd.func146.trans (congrArg some (by kernel_rfl))
  f171 := Tryd.func83.trans (congrArg some (by kernel_rfl))
  f243 := Tryd.func103.trans (congrArg some (by kernel_rfl))
  f246 := Tryd.func119.trans (congrArg some (by kernel_rfl))
  f283 := Tryd.func133.trans (congrArg some (by kernel_rfl))
  f284 := Tryd.func134.trans (congrArg some (by kernel_rfl))
  f285 := Tryd.func135.trans (congrArg some (by kernel_rfl))
  f286 := Tryd.func136.trans (congrArg some (by kernel_rfl))
  f317 := Tryd.func145.trans (congrArg some (by kernel_rfl))
  f318 := Tryd.func147.trans (congrArg some (by kernel_rfl))
  f319 := Tryd.func148.trans (congrArg some (by kernel_rfl))
  f320 := Tryd.func149.trans (congrArg some (by kernel_rfl))
  f337 := Tryd.func154.trans (congrArg some (by kernel_rfl))
  f338 := Tryd.func155.trans (congrArg some (by kernel_rfl))
  t0 := Tryd.underlying0
  a0 := Tryd.isAgg0
  z0 := Tryd.sizeOf0
  v0 := Tryd.zeroValue0
  t2 := Tryd.underlying2
  a2 := Tryd.isAgg2
  z2 := Tryd.sizeOf2
  v2 := Tryd.zeroValue2
  t3 := Tryd.underlying3
  a3 := Tryd.isAgg3
  z3 := Tryd.sizeOf3
  v3 := Tryd.zeroValue3
  t4 := Tryd.underlying4
  a4 := Tryd.isAgg4
  z4 := Tryd.sizeOf4
  v4 := Tryd.zeroValue4
  t5 := Tryd.underlying5
  a5 := Tryd.isAgg5
  z5 := Tryd.sizeOf5
  v5 := Tryd.zeroValue5
  t9 := Tryd.underlying9
  a9 := Tryd.isAgg9
  z9 := Tryd.sizeOf9
  v9 := Tryd.zeroValue9
  t20 := Tryd.underlying20
  a20 := Tryd.isAgg20
  z20 := Tryd.sizeOf20
  v20 := Tryd.zeroValue20
  t37 := Tryd.underlying22
  a37 := Tryd.isAgg22
  z37 := Tryd.sizeOf22
  v37 := Tryd.zeroValue22
  t46 := Tryd.underlying178
  a46 := Tryd.isAgg178
  z46 := Tryd.sizeOf178
  v46 := Tryd.zeroValue178
  t51 := Tryd.underlying185
  a51 := Tryd.isAgg185
  z51 := Tryd.sizeOf185
  v51 := Tryd.zeroValue185
  t53 := Tryd.underlying171
  a53 := Tryd.isAgg171
  z53 := Tryd.sizeOf171
  v53 := Tryd.zeroValue171
  t171 := Tryd.underlying170
  a171 := Tryd.isAgg170
  z171 := Tryd.sizeOf170
  v171 := Tryd.zeroValue170
  t173 := Tryd.underlying174
  a173 := Tryd.isAgg174
  z173 := Tryd.sizeOf174
  v173 := Tryd.zeroValue174
  t212 := Tryd.underlying184
  a212 := Tryd.isAgg184
  z212 := Tryd.sizeOf184
  v212 := Tryd.zeroValue184
  t213 := Tryd.underlying186
  a213 := Tryd.isAgg186
  z213 := Tryd.sizeOf186
  t232 := Tryd.underlying201
  a232 := Tryd.isAgg201
  z232 := Tryd.sizeOf201
  v232 := Tryd.zeroValue201
  t233 := Tryd.underlying202
  a233 := Tryd.isAgg202
  z233 := Tryd.sizeOf202
  v233 := Tryd.zeroValue202
  g17 := by kernel_rfl
  g18 := by kernel_rfl
  g19 := by kernel_rfl
  i0 := by kernel_rfl
  i2 := by kernel_rfl
  i3 := by kernel_rfl
  i4 := by kernel_rfl
  i5 := by kernel_rfl
  i9 := by kernel_rfl
  i20 := by kernel_rfl
  i37 := by kernel_rfl
  i46 := by kernel_rfl
  i51 := by kernel_rfl
  i53 := by kernel_rfl
  i171 := by kernel_rfl
  i173 := by kernel_rfl
  i212 := by kernel_rfl
  i232 := by kernel_rfl
  i233 := by kernel_rfl
  m17 := by kernel_rfl
  m18 := by kernel_rfl
  m19 := by kernel_rfl }
open Go.RowKit Go.Sort Go.Lib in
theorem Tryd.strconv_Itoa (n : Int) (h0 : -9223372036854775808 ≤ n) (h1 : n ≤ 9223372036854775807) (w : World) (htab : Lib.TabIs Tryd.prog w "internal/strconv.uint64pow10" .u64 Lib.pow10Tab) :
    Calls Tryd.prog 83 #[.int .i64 n] w fun e w' => e = .returned (.string ⟨(Lib.itoa n).toArray⟩) ∧ ∃ k os, w' = grow (w.drewN k) os := Any.strconv_Itoa Tryd.laysM171 n h0 h1 w htab
end Go.Proofs
namespace Go.Proofs.YtfkcfjkojfnfnaaDoor
open Go.RowKit
set_option linter.unusedVariables false
set_option maxRecDepth 100000

/-- A list of strings that has been made since w, and grows; old memory is as it was. -/
structure JT (w : World) (v : Value) (xs : List ByteArray) (W : World) : Prop where
  b : Below w.heap.size w W
  o : W.ownsRow w.heap.size 9 1 v xs.length (xs.map Value.string)
theorem JT.one (w : World) (x : ByteArray) : JT w (.slice (some ⟨w.heap.size, 0, none⟩) 1 1) [x] (w.alloc (.cells #[.string x] 9)) :=
  ⟨(Below.refl _ _).alloc (Nat.le_refl _) _, World.ownsRow_lit w #[.string x] 1 (Nat.le_refl _) (by unfold maxLen; omega) rfl⟩
theorem JT.alloc {w W : World} {v : Value} {xs : List ByteArray} (j : JT w v xs W) (o : Obj) : JT w v xs (W.alloc o) := ⟨j.b.alloc j.b.size _, j.o.alloc o⟩
theorem JT.below {w W W' : World} {v : Value} {xs : List ByteArray} (j : JT w v xs W) (h : Below W.heap.size W W') : JT w v xs W' := by
  refine ⟨j.b.trans (h.mono j.b.size), j.o.1, ?_⟩
  rcases j.o.2 with h2 | ⟨g, cap, cur, hv, hg, hh, r⟩
  · exact Or.inl h2
  · exact Or.inr ⟨g, cap, cur, hv, hg, by rw [h.block g (lt_of_block hh)]; exact hh, r⟩
theorem JT.app {w W W' : World} {v : Value} {xs : List ByteArray} {y : ByteArray} {g cap k : Nat} {o : Obj} (j : JT w v xs W) (hk : xs.length = k) (hown : W'.ownsRow w.heap.size 9 1 (.slice (some ⟨g, 0, none⟩) (k + 1) cap) (k + 1) (xs.map Value.string ++ [.string y])) (hg : (W.alloc o).grownBy W' v.ownBlock) :
    JT w (.slice (some ⟨g, 0, none⟩) (k + 1) cap) (xs ++ [y]) W' := by
  refine ⟨(j.alloc o).b.grown hg (j.alloc o).b.size (fun k hk => ((j.alloc o).o.lt k hk).1), ?_⟩
  rw [List.length_append, hk, List.map_append]
  exact hown
theorem JT.cells {w W : World} {v : Value} {xs : List ByteArray} {k : Nat} (j : JT w v xs W) (hk : xs.length = k) (h0 : 0 < k) : ∃ g cap, v = .slice (some ⟨g, 0, none⟩) k cap ∧ k ≤ cap ∧ g < W.heap.size ∧ ∀ (i : Nat) x, xs[i]? = some x → W.cell? ⟨g, 0 + i, none⟩ = some (.string x) := by
  subst hk
  rcases j.o.2 with ⟨hv, h⟩ | ⟨g, cap', cur, rfl, hg, hh, hl, _, _⟩
  · omega
  · refine ⟨g, cap', rfl, hl, lt_of_block hh, fun i x hx => ?_⟩
    have hi := (List.getElem?_eq_some_iff.1 hx).1
    have := j.o.cellAt i (by omega)
    rw [Nat.zero_add, this]
    simp [hx]

theorem newsS (w : World) (x : Value) (t : TypeId) : ∀ j u, [x][j]? = some u → (w.alloc (.cells #[x] t)).cell? ((⟨w.heap.size, 0, none⟩ : Addr).add j) = some u := fun j u hu => by
  match j, hu with
  | 0, hu =>
    simp only [List.getElem?_cons_zero, Option.some.injEq] at hu
    subst hu
    simp [Addr.add]
theorem oneS (x : ByteArray) : ∀ u ∈ [Value.string x], u.oneCell' = true := fun u hu => by
  simp at hu; subst hu; rfl
theorem Tryd.infoStr : (Tryd.prog.info? 9).map (fun i => (i.zero, i.size, i.bytes)) = some (some (.string ⟨#[]⟩), 1, 16) := by kernel_rfl

theorem word_any (c : Int) (w : World) : Calls Tryd.prog 52 #[.int .i64 c] w fun e w' => e = .returned (.string ⟨(wordL c).toArray⟩) ∧ w' = w := by
  by_cases h1 : c = 1
  · subst h1
    go_enter Tryd.func52, Tryd.ntmps52
    go_wp2
    go_ret
    exact ⟨rfl, rfl⟩
  have h1' : (c == 1) = false := by simp [h1]
  by_cases h2 : c = 2
  · subst h2
    go_enter Tryd.func52, Tryd.ntmps52
    go_wp2
    go_ret
    exact ⟨rfl, rfl⟩
  have h2' : (c == 2) = false := by simp [h2]
  by_cases h3 : c = 3
  · subst h3
    go_enter Tryd.func52, Tryd.ntmps52
    go_wp2
    go_ret
    exact ⟨rfl, rfl⟩
  have h3' : (c == 3) = false := by simp [h3]
  have e : wordL c = [] := by rw [wordL, if_neg h1, if_neg h2, if_neg h3]
  rw [e]
  go_enter Tryd.func52, Tryd.ntmps52
  go_wp2
  go_ret
  exact ⟨rfl, rfl⟩

/-- The words of a result. -/
def wordsL (c : Int) (zs : List Int) : List ByteArray := ⟨(wordL c).toArray⟩ :: zs.map fun z => ⟨(Lib.itoa z).toArray⟩
theorem words_join (c : Int) (zs : List Int) : Lib.join ((wordsL c zs).map (·.data.toList)) [32] = wordL c ++ tailL zs := by
  rw [wordsL, List.map_cons, Lib.join_cons, tailL, List.map_map]
  rfl
theorem words_step {c : Int} {zs : List Int} {k : Nat} (h : k < zs.length) : wordsL c (zs.take (k + 1)) = wordsL c (zs.take k) ++ [⟨(Lib.itoa (zs[k]?.getD 0)).toArray⟩] := by
  rw [wordsL, wordsL, List.take_succ_eq_append_getElem h, List.getElem?_eq_getElem h, List.map_append]
  rfl
theorem words_len (c : Int) (zs : List Int) : (wordsL c zs).length = zs.length + 1 := by simp [wordsL]
theorem tail_len {zs : List Int} (hb : ∀ i : Nat, -999999999999 ≤ zs[i]?.getD 0 ∧ zs[i]?.getD 0 ≤ 999999999999) : ∀ k, k ≤ zs.length → (tailL (zs.take k)).length ≤ 22 * k
  | 0, _ => by simp [tailL, Lib.joinTail]
  | k + 1, h => by
    have ih := tail_len hb k (by omega)
    have hz := hb k
    have := Lib.itoa_length_le (zs[k]?.getD 0) (by omega) (by omega)
    rw [tail_step (by omega), List.length_append, List.length_append]
    simp only [List.length_cons, List.length_nil]
    omega

end Go.Proofs.YtfkcfjkojfnfnaaDoor
namespace Go.Proofs.YtfkcfjkojfnfnaaDoor
open Go.RowKit
set_option linter.unusedVariables false
set_option maxRecDepth 100000

def wordsT (l : List UInt8) (zs : List Int) : List ByteArray := ⟨l.toArray⟩ :: zs.map fun z => ⟨(Lib.itoa z).toArray⟩
theorem wordsT_join (l : List UInt8) (zs : List Int) : Lib.join ((wordsT l zs).map (·.data.toList)) [32] = l ++ tailL zs := by
  rw [wordsT, List.map_cons, Lib.join_cons, tailL, List.map_map]
  rfl
theorem wordsT_step {l : List UInt8} {zs : List Int} {k : Nat} (h : k < zs.length) : wordsT l (zs.take (k + 1)) = wordsT l (zs.take k) ++ [⟨(Lib.itoa (zs[k]?.getD 0)).toArray⟩] := by
  rw [wordsT, wordsT, List.take_succ_eq_append_getElem h, List.getElem?_eq_getElem h, List.map_append]
  rfl
set_option maxHeartbeats 3200000 in
theorem itwn_any (l : List UInt8) (a : Option Addr) (n cap : Nat) (zs : List Int) (w : World) (hC : Ints w a n zs) (hn : n ≤ 1000) (hl : l.length ≤ 1000) (hz : ∀ i : Nat, -999999999999 ≤ zs[i]?.getD 0 ∧ zs[i]?.getD 0 ≤ 999999999999) (hT : Lib.TabBelow Tryd.prog w.heap.size w "internal/strconv.uint64pow10" .u64 Lib.pow10Tab) :
    Calls Tryd.prog 54 #[.string ⟨l.toArray⟩, .slice a n cap] w fun e w' => e = .returned (.string ⟨(l ++ tailL zs).toArray⟩) ∧ Below w.heap.size w w' := by
  have HL : Hid (zs.length = n) := hC.1
  have HTB : Hid _ := hT
  have BZ : Hid (∀ i : Nat, -999999999999 ≤ zs[i]?.getD 0 ∧ zs[i]?.getD 0 ≤ 999999999999) := hz
  have HLL : Hid (l.length ≤ 1000) := hl
  clear hT hz hl
  obtain ⟨i0, hi, hz0, hz1, hz2⟩ := info_parts Tryd.infoStr
  obtain ⟨S, hS⟩ : ∃ S : ByteArray, S = ⟨l.toArray⟩ := ⟨_, rfl⟩
  have HS0 : Hid (S = ⟨l.toArray⟩) := hS
  rw [← hS]
  clear hS
  go_enter Tryd.func54, Tryd.ntmps54
  go_wp2_with fail
  go_loopw [5, 7, 12] (fun v _ i wr => ∃ (k : Nat) (xs : List ByteArray), k ≤ n ∧ i = .int .i64 k ∧ xs.length = k + 1 ∧ xs = wordsT l (zs.take k) ∧ JT w v xs wr) (fun _ _ i _ => n - (intOf i).toNat)
  case atStart => exact ⟨0, _, Nat.zero_le _, rfl, rfl, by rw [HS0.out]; rfl, JT.one w S⟩
  case round =>
    obtain ⟨k, xs, hk, rfl, hxl, hxs, j⟩ := hrel
    have HXL : Hid _ := hxl
    have HXS : Hid _ := hxs
    clear hxl hxs
    have hjb := j.b.size
    by_cases hlt : k < n
    · obtain ⟨b, off, rfl, hcell⟩ := (hC.below j.b).pos (by omega)
      have hck : wr.cell? ⟨b, off + k, none⟩ = some (.int .i64 (zs[k]?.getD 0)) := by rw [hcell k hlt]; simp
      have HS : Hid _ := wordsT_step (l := l) (zs := zs) (k := k) (by rw [HL.out]; exact hlt)
      have hz := BZ.out k
      generalize HG : zs[k]?.getD 0 = z at hck HS hz
      clear HG hcell
      obtain ⟨z1, z2⟩ := hz
      have tab : Lib.TabIs Tryd.prog wr "internal/strconv.uint64pow10" .u64 Lib.pow10Tab := HTB.out wr j.b
      go_wp2_with fail
      refine (Tryd.strconv_Itoa z (by omega) (by omega) _ tab).mono ?_
      rintro e w2 ⟨rfl, q, os, hw2⟩
      have b2 : Below wr.heap.size wr w2 := by rw [hw2]; exact Lib.below_grow _ _ (Nat.le_refl _) _ _
      clear hw2 tab
      have j2 := j.below b2
      have jo := j2.o
      rw [HXL.out] at jo
      have hjb2 := j2.b.size
      clear b2 j
      obtain ⟨I, hI⟩ : ∃ I : ByteArray, I = ⟨(Lib.itoa z).toArray⟩ := ⟨_, rfl⟩
      rw [← hI]
      have HI : Hid _ := hI
      clear hI
      go_wp2_with (at_builtin; go_must (refine wpList_append_lies _ rfl (.tmp 16) (.tmp 19) 69 rfl w.heap.size 9 i0 (.string ⟨#[]⟩) 1 16 Tryd.underlying69 hi hz0 hz1 hz2 rfl (by decide) _ _ _ rfl (jo.alloc _) ⟨w2.heap.size, 0, none⟩ 1 1 [.string I] rfl rfl (newsS _ _ _) (oneS _) (by omega) (by unfold maxLen; omega) (by omega) (by rw [World.size_alloc]; omega) _ rfl ?_); intro g cp w3 hown hgrow hat hlt1)
      have j3 := j2.app HXL.out hown hgrow
      clear hown hgrow jo j2 hat
      go_wp2
      go_roundw
      case rel => exact ⟨k + 1, _, by omega, by go_num, by rw [List.length_append, HXL.out]; rfl, by rw [HS.out, HXS.out, HI.out], j3⟩
      case measure => simp [intOf]; omega
    · obtain rfl : k = n := by omega
      obtain ⟨g, gc, rfl, hcap, hg, hcs⟩ := j.cells HXL.out (by omega)
      have HJ := Tryd.strings_Join g 0 gc xs ⟨#[32]⟩ wr hcs hg (by rw [HXL.out]; omega) (by rw [HXL.out]; exact hcap) (by
        rw [HXS.out, List.take_of_length_le (by rw [HL.out]; exact Nat.le_refl _)]
        have := wordsT_join l zs
        rw [show (⟨#[32]⟩ : ByteArray).data.toList = [32] from rfl, this, List.length_append]
        have := tail_len BZ.out zs.length (Nat.le_refl _)
        rw [List.take_length] at this
        have := HLL.out
        have := HL.out
        omega)
      rw [HXL.out] at HJ
      have jb := j.b
      clear hcs hcap hg j
      go_wp2_with fail
      refine HJ.mono ?_
      rintro e w2 ⟨rfl, b2⟩
      have B2 := jb.trans (b2.mono (by omega))
      go_wp2
      go_ret
      refine ⟨?_, B2⟩
      rw [← wordsT_join l zs, HXS.out, List.take_of_length_le (by rw [HL.out]; exact Nat.le_refl _)]
      rfl

end Go.Proofs.YtfkcfjkojfnfnaaDoor
namespace Go.Proofs.YtfkcfjkojfnfnaaDoor
open Go.RowKit
set_option linter.unusedVariables false
set_option maxRecDepth 100000

theorem one_intsC (w : World) (x : Int) (t : TypeId) : Ints (w.alloc (.cells #[.int .i64 x] t)) (some ⟨w.heap.size, 0, none⟩) 1 [x] :=
  ⟨rfl, fun i hi => ⟨w.heap.size, 0, rfl, by
    obtain rfl : i = 0 := by omega
    simp [go_sem]⟩⟩
theorem bet_oneC (x lo hi : Int) : betB lo hi [x] = inB x lo hi := by simp [betB]

theorem tail_one (x : Int) : tailL [x] = [32] ++ Lib.itoa x := by simp [tailL, Lib.joinTail]
def casL (cl sq : Int) : List UInt8 := wClient ++ ([32] ++ Lib.itoa cl) ++ [32] ++ (wCall ++ ([32] ++ Lib.itoa sq))
theorem ba_app (x y : List UInt8) : (⟨x.toArray⟩ : ByteArray) ++ (⟨y.toArray⟩ : ByteArray) = ⟨(x ++ y).toArray⟩ := by
  apply ByteArray.ext
  simp
theorem ba_len (x : List UInt8) : (⟨x.toArray⟩ : ByteArray).size = x.length := by simp [ByteArray.size]
theorem run_add (X : World) (x y : List UInt8) (h : x.length + y.length ≤ 100000) : (Op.stringOp .add (⟨x.toArray⟩ : ByteArray) (⟨y.toArray⟩ : ByteArray)).run Tryd.prog X = .ok (.string ⟨(x ++ y).toArray⟩) X := by
  have h2 : (⟨x.toArray⟩ : ByteArray).size + (⟨y.toArray⟩ : ByteArray).size ≤ maxLen := by rw [ba_len, ba_len]; unfold maxLen; omega
  rw [run_string_add_sum X _ _ h2, ba_app]
set_option maxHeartbeats 6400000 in
theorem icas_any (cl sq ac : Int) (a : Option Addr) (n cap : Nat) (w : World) (h1 : 0 ≤ cl ∧ cl < 4) (h2 : 1 ≤ sq ∧ sq ≤ 300) (hT : Lib.TabBelow Tryd.prog w.heap.size w "internal/strconv.uint64pow10" .u64 Lib.pow10Tab) :
    Calls Tryd.prog 78 #[clV cl sq ac a n cap] w fun e w' => e = .returned (.string ⟨(casL cl sq).toArray⟩) ∧ Below w.heap.size w w' := by
  have HTB : Hid _ := hT
  clear hT
  have q0 := Cel.new w [.int .i64 cl, .int .i64 sq, .int .i64 ac, .slice a n cap] 57
  have BZ := (Below.refl w.heap.size w).alloc (Nat.le_refl _) (.cells #[.int .i64 cl, .int .i64 sq, .int .i64 ac, .slice a n cap] 57)
  have l1 := Lib.itoa_length_le cl (by omega) (by omega)
  have l2 := Lib.itoa_length_le sq (by omega) (by omega)
  obtain ⟨T1, e1⟩ : ∃ T : ByteArray, (⟨(wClient ++ tailL [cl]).toArray⟩ : ByteArray) = T := ⟨_, rfl⟩
  obtain ⟨T2, e2⟩ : ∃ T : ByteArray, (⟨(wClient ++ tailL [cl] ++ [32]).toArray⟩ : ByteArray) = T := ⟨_, rfl⟩
  obtain ⟨T3, e3⟩ : ∃ T : ByteArray, (⟨(wCall ++ tailL [sq]).toArray⟩ : ByteArray) = T := ⟨_, rfl⟩
  obtain ⟨T4, e4⟩ : ∃ T : ByteArray, (⟨(casL cl sq).toArray⟩ : ByteArray) = T := ⟨_, rfl⟩
  have A1 : ∀ X : World, (Op.stringOp .add (T1 : ByteArray) (⟨#[32]⟩ : ByteArray)).run Tryd.prog X = .ok (.string T2) X := fun X => by
    rw [← e1, ← e2]
    exact run_add X _ [32] (by rw [tail_one]; simp only [List.length_append, List.length_cons, List.length_nil, wClient]; omega)
  have A2 : ∀ X : World, (Op.stringOp .add (T2 : ByteArray) (T3 : ByteArray)).run Tryd.prog X = .ok (.string T4) X := fun X => by
    rw [← e2, ← e3, ← e4]
    rw [run_add X _ _ (by rw [tail_one, tail_one]; simp only [List.length_append, List.length_cons, List.length_nil, wClient, wCall]; omega)]
    rw [tail_one, tail_one, casL]
  have E1 : Hid _ := e1
  have E3 : Hid _ := e3
  rw [e4]
  clear e1 e2 e3 e4 l1 l2
  go_enter Tryd.func78, Tryd.ntmps78
  go_upto_region 1 with fail
  obtain ⟨W, hW⟩ : ∃ W, W = w.alloc (.cells #[.int .i64 cl, .int .i64 sq, .int .i64 ac, .slice a n cap] 57) := ⟨_, rfl⟩
  obtain ⟨Q, hQ⟩ : ∃ Q, Q = w.heap.size := ⟨_, rfl⟩
  rw [← hQ, ← hW]
  rw [← hW] at q0 BZ
  rw [← hQ] at q0
  clear hW hQ
  refine wp_region_ends (fun X => X.cell? ⟨Q, 0, none⟩ = some (.int .i64 cl) ∧ X.cell? ⟨Q, 1, none⟩ = some (.int .i64 sq)) (fun _ => True) 10 (by kernel_rfl) ?_
  have dr : Below W.heap.size W W.drew := (Below.refl _ _).drew
  replace BZ := BZ.trans (dr.mono BZ.size)
  replace q0 := q0.below dr
  clear dr
  obtain ⟨V, hV⟩ : ∃ V, V = W.drew := ⟨_, rfl⟩
  rw [← hV]
  rw [← hV] at BZ q0
  clear hV
  have hSS : (fun X : World => X.cell? ⟨Q, 0, none⟩ = some (.int .i64 cl) ∧ X.cell? ⟨Q, 1, none⟩ = some (.int .i64 sq)) V ∧ True := ⟨⟨q0.cell 0, q0.cell 1⟩, trivial⟩
  refine tkL (i := 0) rfl hSS ?_
  refine tkL (i := 1) rfl hSS ?_
  refine tkL (i := 5) rfl hSS ?_
  refine tkL (i := 6) rfl hSS ?_
  simp only [Act.put, List.setIfInBounds_toArray, List.set_cons_succ, List.set_cons_zero, List.getElem_toArray, List.getElem_cons_succ, List.getElem_cons_zero]
  refine wpAnyE_two (i := 2) (j := 7) (by kernel_rfl) rfl rfl (fun Kn hK => ?_) (fun Kn hK => ?_)
  · go_simp
    have al := (Below.refl V.heap.size V).alloc (Nat.le_refl _) (.cells #[.int .i64 cl] 3)
    have ia := one_intsC V cl 3
    replace BZ := BZ.trans (al.mono BZ.size)
    replace q0 := q0.below al
    clear al
    obtain ⟨Y1, hY1⟩ : ∃ W, W = V.alloc (.cells #[.int .i64 cl] 3) := ⟨_, rfl⟩
    rw [← hY1]
    rw [← hY1] at BZ q0 ia
    clear hY1
    clear hSS
    have hSS : (fun X : World => X.cell? ⟨Q, 0, none⟩ = some (.int .i64 cl) ∧ X.cell? ⟨Q, 1, none⟩ = some (.int .i64 sq)) Y1 ∧ True := ⟨⟨q0.cell 0, q0.cell 1⟩, trivial⟩
    refine hK.out _ _ ⟨hSS.1, fun _ => trivial⟩ ?_
    clear hK
    refine wpAnyE_two (i := 3) (j := 7) (by kernel_rfl) rfl rfl (fun Kn hK => ?_) (fun Kn hK => ?_)
    · go_simp
      refine (itwn_any wClient _ _ _ [cl] _ ia (by omega) (by decide) (fun i => by match i with | 0 => (simp only [List.getElem?_cons_zero, Option.getD_some]; omega) | i + 1 => simp) (fun X hX => HTB.out X (BZ.trans (hX.mono BZ.size)))).mono ?_
      rintro ee w2 ⟨rfl, b9⟩
      rw [E1.out]
      replace BZ := BZ.trans (b9.mono BZ.size)
      replace q0 := q0.below b9
      replace ia := ia.below b9
      clear b9
      dsimp only
      clear hSS
      have hSS : (fun X : World => X.cell? ⟨Q, 0, none⟩ = some (.int .i64 cl) ∧ X.cell? ⟨Q, 1, none⟩ = some (.int .i64 sq)) w2 ∧ True := ⟨⟨q0.cell 0, q0.cell 1⟩, trivial⟩
      refine hK.out _ _ ⟨hSS.1, fun _ => trivial⟩ ?_
      clear hK
      refine wpAnyE_two (i := 4) (j := 7) (by kernel_rfl) rfl rfl (fun Kn hK => ?_) (fun Kn hK => ?_)
      · go_simp
        clear hSS
        have hSS : (fun X : World => X.cell? ⟨Q, 0, none⟩ = some (.int .i64 cl) ∧ X.cell? ⟨Q, 1, none⟩ = some (.int .i64 sq)) w2 ∧ True := ⟨⟨q0.cell 0, q0.cell 1⟩, trivial⟩
        refine hK.out _ _ ⟨hSS.1, fun _ => trivial⟩ ?_
        clear hK
        refine wpAnyE_one (i := 7) (by kernel_rfl) rfl (fun Kn hK => ?_)
        go_simp
        have al := (Below.refl w2.heap.size w2).alloc (Nat.le_refl _) (.cells #[.int .i64 sq] 3)
        have ib := one_intsC w2 sq 3
        replace BZ := BZ.trans (al.mono BZ.size)
        replace q0 := q0.below al
        replace ia := ia.below al
        clear al
        obtain ⟨Y3, hY3⟩ : ∃ W, W = w2.alloc (.cells #[.int .i64 sq] 3) := ⟨_, rfl⟩
        rw [← hY3]
        rw [← hY3] at BZ q0 ia ib
        clear hY3
        clear hSS
        have hSS : (fun X : World => X.cell? ⟨Q, 0, none⟩ = some (.int .i64 cl) ∧ X.cell? ⟨Q, 1, none⟩ = some (.int .i64 sq)) Y3 ∧ True := ⟨⟨q0.cell 0, q0.cell 1⟩, trivial⟩
        refine hK.out _ _ ⟨hSS.1, fun _ => trivial⟩ ?_
        clear hK
        refine wpAnyE_one (i := 8) (by kernel_rfl) rfl (fun Kn hK => ?_)
        go_simp
        refine (itwn_any wCall _ _ _ [sq] _ ib (by omega) (by decide) (fun i => by match i with | 0 => (simp only [List.getElem?_cons_zero, Option.getD_some]; omega) | i + 1 => simp) (fun X hX => HTB.out X (BZ.trans (hX.mono BZ.size)))).mono ?_
        rintro ee w4 ⟨rfl, b9⟩
        rw [E3.out]
        replace BZ := BZ.trans (b9.mono BZ.size)
        replace q0 := q0.below b9
        replace ia := ia.below b9
        replace ib := ib.below b9
        clear b9
        dsimp only
        clear hSS
        have hSS : (fun X : World => X.cell? ⟨Q, 0, none⟩ = some (.int .i64 cl) ∧ X.cell? ⟨Q, 1, none⟩ = some (.int .i64 sq)) w4 ∧ True := ⟨⟨q0.cell 0, q0.cell 1⟩, trivial⟩
        refine hK.out _ _ ⟨hSS.1, fun _ => trivial⟩ ?_
        clear hK
        refine wpAnyE_one (i := 9) (by kernel_rfl) rfl (fun Kn hK => ?_)
        go_simp
        clear hSS
        have hSS : (fun X : World => X.cell? ⟨Q, 0, none⟩ = some (.int .i64 cl) ∧ X.cell? ⟨Q, 1, none⟩ = some (.int .i64 sq)) w4 ∧ True := ⟨⟨q0.cell 0, q0.cell 1⟩, trivial⟩
        refine hK.out _ _ ⟨hSS.1, fun _ => trivial⟩ ?_
        clear hK
        refine wpAnyE_one (i := 10) (by kernel_rfl) rfl (fun Kn hK => ?_)
        go_simp
        clear hSS
        have hSS : (fun X : World => X.cell? ⟨Q, 0, none⟩ = some (.int .i64 cl) ∧ X.cell? ⟨Q, 1, none⟩ = some (.int .i64 sq)) w4 ∧ True := ⟨⟨q0.cell 0, q0.cell 1⟩, trivial⟩
        refine hK.out _ _ ⟨hSS.1, fun _ => trivial⟩ ?_
        clear hK
        refine wpAnyE_done (by kernel_rfl) ?_ _
        clear hSS
        clear q0 A1 A2
        go_wp2
        go_ret
        exact ⟨rfl, BZ⟩
      · go_simp
        have al := (Below.refl w2.heap.size w2).alloc (Nat.le_refl _) (.cells #[.int .i64 sq] 3)
        have ib := one_intsC w2 sq 3
        replace BZ := BZ.trans (al.mono BZ.size)
        replace q0 := q0.below al
        replace ia := ia.below al
        clear al
        obtain ⟨Y3, hY3⟩ : ∃ W, W = w2.alloc (.cells #[.int .i64 sq] 3) := ⟨_, rfl⟩
        rw [← hY3]
        rw [← hY3] at BZ q0 ia ib
        clear hY3
        clear hSS
        have hSS : (fun X : World => X.cell? ⟨Q, 0, none⟩ = some (.int .i64 cl) ∧ X.cell? ⟨Q, 1, none⟩ = some (.int .i64 sq)) Y3 ∧ True := ⟨⟨q0.cell 0, q0.cell 1⟩, trivial⟩
        refine hK.out _ _ ⟨hSS.1, fun _ => trivial⟩ ?_
        clear hK
        refine wpAnyE_two (i := 4) (j := 8) (by kernel_rfl) rfl rfl (fun Kn hK => ?_) (fun Kn hK => ?_)
        · go_simp
          clear hSS
          have hSS : (fun X : World => X.cell? ⟨Q, 0, none⟩ = some (.int .i64 cl) ∧ X.cell? ⟨Q, 1, none⟩ = some (.int .i64 sq)) Y3 ∧ True := ⟨⟨q0.cell 0, q0.cell 1⟩, trivial⟩
          refine hK.out _ _ ⟨hSS.1, fun _ => trivial⟩ ?_
          clear hK
          refine wpAnyE_one (i := 8) (by kernel_rfl) rfl (fun Kn hK => ?_)
          go_simp
          refine (itwn_any wCall _ _ _ [sq] _ ib (by omega) (by decide) (fun i => by match i with | 0 => (simp only [List.getElem?_cons_zero, Option.getD_some]; omega) | i + 1 => simp) (fun X hX => HTB.out X (BZ.trans (hX.mono BZ.size)))).mono ?_
          rintro ee w4 ⟨rfl, b9⟩
          rw [E3.out]
          replace BZ := BZ.trans (b9.mono BZ.size)
          replace q0 := q0.below b9
          replace ia := ia.below b9
          replace ib := ib.below b9
          clear b9
          dsimp only
          clear hSS
          have hSS : (fun X : World => X.cell? ⟨Q, 0, none⟩ = some (.int .i64 cl) ∧ X.cell? ⟨Q, 1, none⟩ = some (.int .i64 sq)) w4 ∧ True := ⟨⟨q0.cell 0, q0.cell 1⟩, trivial⟩
          refine hK.out _ _ ⟨hSS.1, fun _ => trivial⟩ ?_
          clear hK
          refine wpAnyE_one (i := 9) (by kernel_rfl) rfl (fun Kn hK => ?_)
          go_simp
          clear hSS
          have hSS : (fun X : World => X.cell? ⟨Q, 0, none⟩ = some (.int .i64 cl) ∧ X.cell? ⟨Q, 1, none⟩ = some (.int .i64 sq)) w4 ∧ True := ⟨⟨q0.cell 0, q0.cell 1⟩, trivial⟩
          refine hK.out _ _ ⟨hSS.1, fun _ => trivial⟩ ?_
          clear hK
          refine wpAnyE_one (i := 10) (by kernel_rfl) rfl (fun Kn hK => ?_)
          go_simp
          clear hSS
          have hSS : (fun X : World => X.cell? ⟨Q, 0, none⟩ = some (.int .i64 cl) ∧ X.cell? ⟨Q, 1, none⟩ = some (.int .i64 sq)) w4 ∧ True := ⟨⟨q0.cell 0, q0.cell 1⟩, trivial⟩
          refine hK.out _ _ ⟨hSS.1, fun _ => trivial⟩ ?_
          clear hK
          refine wpAnyE_done (by kernel_rfl) ?_ _
          clear hSS
          clear q0 A1 A2
          go_wp2
          go_ret
          exact ⟨rfl, BZ⟩
        · go_simp
          refine (itwn_any wCall _ _ _ [sq] _ ib (by omega) (by decide) (fun i => by match i with | 0 => (simp only [List.getElem?_cons_zero, Option.getD_some]; omega) | i + 1 => simp) (fun X hX => HTB.out X (BZ.trans (hX.mono BZ.size)))).mono ?_
          rintro ee w4 ⟨rfl, b9⟩
          rw [E3.out]
          replace BZ := BZ.trans (b9.mono BZ.size)
          replace q0 := q0.below b9
          replace ia := ia.below b9
          replace ib := ib.below b9
          clear b9
          dsimp only
          clear hSS
          have hSS : (fun X : World => X.cell? ⟨Q, 0, none⟩ = some (.int .i64 cl) ∧ X.cell? ⟨Q, 1, none⟩ = some (.int .i64 sq)) w4 ∧ True := ⟨⟨q0.cell 0, q0.cell 1⟩, trivial⟩
          refine hK.out _ _ ⟨hSS.1, fun _ => trivial⟩ ?_
          clear hK
          refine wpAnyE_one (i := 4) (by kernel_rfl) rfl (fun Kn hK => ?_)
          go_simp
          clear hSS
          have hSS : (fun X : World => X.cell? ⟨Q, 0, none⟩ = some (.int .i64 cl) ∧ X.cell? ⟨Q, 1, none⟩ = some (.int .i64 sq)) w4 ∧ True := ⟨⟨q0.cell 0, q0.cell 1⟩, trivial⟩
          refine hK.out _ _ ⟨hSS.1, fun _ => trivial⟩ ?_
          clear hK
          refine wpAnyE_one (i := 9) (by kernel_rfl) rfl (fun Kn hK => ?_)
          go_simp
          clear hSS
          have hSS : (fun X : World => X.cell? ⟨Q, 0, none⟩ = some (.int .i64 cl) ∧ X.cell? ⟨Q, 1, none⟩ = some (.int .i64 sq)) w4 ∧ True := ⟨⟨q0.cell 0, q0.cell 1⟩, trivial⟩
          refine hK.out _ _ ⟨hSS.1, fun _ => trivial⟩ ?_
          clear hK
          refine wpAnyE_one (i := 10) (by kernel_rfl) rfl (fun Kn hK => ?_)
          go_simp
          clear hSS
          have hSS : (fun X : World => X.cell? ⟨Q, 0, none⟩ = some (.int .i64 cl) ∧ X.cell? ⟨Q, 1, none⟩ = some (.int .i64 sq)) w4 ∧ True := ⟨⟨q0.cell 0, q0.cell 1⟩, trivial⟩
          refine hK.out _ _ ⟨hSS.1, fun _ => trivial⟩ ?_
          clear hK
          refine wpAnyE_done (by kernel_rfl) ?_ _
          clear hSS
          clear q0 A1 A2
          go_wp2
          go_ret
          exact ⟨rfl, BZ⟩
    · go_simp
      have al := (Below.refl Y1.heap.size Y1).alloc (Nat.le_refl _) (.cells #[.int .i64 sq] 3)
      have ib := one_intsC Y1 sq 3
      replace BZ := BZ.trans (al.mono BZ.size)
      replace q0 := q0.below al
      replace ia := ia.below al
      clear al
      obtain ⟨Y2, hY2⟩ : ∃ W, W = Y1.alloc (.cells #[.int .i64 sq] 3) := ⟨_, rfl⟩
      rw [← hY2]
      rw [← hY2] at BZ q0 ia ib
      clear hY2
      clear hSS
      have hSS : (fun X : World => X.cell? ⟨Q, 0, none⟩ = some (.int .i64 cl) ∧ X.cell? ⟨Q, 1, none⟩ = some (.int .i64 sq)) Y2 ∧ True := ⟨⟨q0.cell 0, q0.cell 1⟩, trivial⟩
      refine hK.out _ _ ⟨hSS.1, fun _ => trivial⟩ ?_
      clear hK
      refine wpAnyE_one (i := 3) (by kernel_rfl) rfl (fun Kn hK => ?_)
      go_simp
      refine (itwn_any wClient _ _ _ [cl] _ ia (by omega) (by decide) (fun i => by match i with | 0 => (simp only [List.getElem?_cons_zero, Option.getD_some]; omega) | i + 1 => simp) (fun X hX => HTB.out X (BZ.trans (hX.mono BZ.size)))).mono ?_
      rintro ee w3 ⟨rfl, b9⟩
      rw [E1.out]
      replace BZ := BZ.trans (b9.mono BZ.size)
      replace q0 := q0.below b9
      replace ia := ia.below b9
      replace ib := ib.below b9
      clear b9
      dsimp only
      clear hSS
      have hSS : (fun X : World => X.cell? ⟨Q, 0, none⟩ = some (.int .i64 cl) ∧ X.cell? ⟨Q, 1, none⟩ = some (.int .i64 sq)) w3 ∧ True := ⟨⟨q0.cell 0, q0.cell 1⟩, trivial⟩
      refine hK.out _ _ ⟨hSS.1, fun _ => trivial⟩ ?_
      clear hK
      refine wpAnyE_two (i := 4) (j := 8) (by kernel_rfl) rfl rfl (fun Kn hK => ?_) (fun Kn hK => ?_)
      · go_simp
        clear hSS
        have hSS : (fun X : World => X.cell? ⟨Q, 0, none⟩ = some (.int .i64 cl) ∧ X.cell? ⟨Q, 1, none⟩ = some (.int .i64 sq)) w3 ∧ True := ⟨⟨q0.cell 0, q0.cell 1⟩, trivial⟩
        refine hK.out _ _ ⟨hSS.1, fun _ => trivial⟩ ?_
        clear hK
        refine wpAnyE_one (i := 8) (by kernel_rfl) rfl (fun Kn hK => ?_)
        go_simp
        refine (itwn_any wCall _ _ _ [sq] _ ib (by omega) (by decide) (fun i => by match i with | 0 => (simp only [List.getElem?_cons_zero, Option.getD_some]; omega) | i + 1 => simp) (fun X hX => HTB.out X (BZ.trans (hX.mono BZ.size)))).mono ?_
        rintro ee w4 ⟨rfl, b9⟩
        rw [E3.out]
        replace BZ := BZ.trans (b9.mono BZ.size)
        replace q0 := q0.below b9
        replace ia := ia.below b9
        replace ib := ib.below b9
        clear b9
        dsimp only
        clear hSS
        have hSS : (fun X : World => X.cell? ⟨Q, 0, none⟩ = some (.int .i64 cl) ∧ X.cell? ⟨Q, 1, none⟩ = some (.int .i64 sq)) w4 ∧ True := ⟨⟨q0.cell 0, q0.cell 1⟩, trivial⟩
        refine hK.out _ _ ⟨hSS.1, fun _ => trivial⟩ ?_
        clear hK
        refine wpAnyE_one (i := 9) (by kernel_rfl) rfl (fun Kn hK => ?_)
        go_simp
        clear hSS
        have hSS : (fun X : World => X.cell? ⟨Q, 0, none⟩ = some (.int .i64 cl) ∧ X.cell? ⟨Q, 1, none⟩ = some (.int .i64 sq)) w4 ∧ True := ⟨⟨q0.cell 0, q0.cell 1⟩, trivial⟩
        refine hK.out _ _ ⟨hSS.1, fun _ => trivial⟩ ?_
        clear hK
        refine wpAnyE_one (i := 10) (by kernel_rfl) rfl (fun Kn hK => ?_)
        go_simp
        clear hSS
        have hSS : (fun X : World => X.cell? ⟨Q, 0, none⟩ = some (.int .i64 cl) ∧ X.cell? ⟨Q, 1, none⟩ = some (.int .i64 sq)) w4 ∧ True := ⟨⟨q0.cell 0, q0.cell 1⟩, trivial⟩
        refine hK.out _ _ ⟨hSS.1, fun _ => trivial⟩ ?_
        clear hK
        refine wpAnyE_done (by kernel_rfl) ?_ _
        clear hSS
        clear q0 A1 A2
        go_wp2
        go_ret
        exact ⟨rfl, BZ⟩
      · go_simp
        refine (itwn_any wCall _ _ _ [sq] _ ib (by omega) (by decide) (fun i => by match i with | 0 => (simp only [List.getElem?_cons_zero, Option.getD_some]; omega) | i + 1 => simp) (fun X hX => HTB.out X (BZ.trans (hX.mono BZ.size)))).mono ?_
        rintro ee w4 ⟨rfl, b9⟩
        rw [E3.out]
        replace BZ := BZ.trans (b9.mono BZ.size)
        replace q0 := q0.below b9
        replace ia := ia.below b9
        replace ib := ib.below b9
        clear b9
        dsimp only
        clear hSS
        have hSS : (fun X : World => X.cell? ⟨Q, 0, none⟩ = some (.int .i64 cl) ∧ X.cell? ⟨Q, 1, none⟩ = some (.int .i64 sq)) w4 ∧ True := ⟨⟨q0.cell 0, q0.cell 1⟩, trivial⟩
        refine hK.out _ _ ⟨hSS.1, fun _ => trivial⟩ ?_
        clear hK
        refine wpAnyE_one (i := 4) (by kernel_rfl) rfl (fun Kn hK => ?_)
        go_simp
        clear hSS
        have hSS : (fun X : World => X.cell? ⟨Q, 0, none⟩ = some (.int .i64 cl) ∧ X.cell? ⟨Q, 1, none⟩ = some (.int .i64 sq)) w4 ∧ True := ⟨⟨q0.cell 0, q0.cell 1⟩, trivial⟩
        refine hK.out _ _ ⟨hSS.1, fun _ => trivial⟩ ?_
        clear hK
        refine wpAnyE_one (i := 9) (by kernel_rfl) rfl (fun Kn hK => ?_)
        go_simp
        clear hSS
        have hSS : (fun X : World => X.cell? ⟨Q, 0, none⟩ = some (.int .i64 cl) ∧ X.cell? ⟨Q, 1, none⟩ = some (.int .i64 sq)) w4 ∧ True := ⟨⟨q0.cell 0, q0.cell 1⟩, trivial⟩
        refine hK.out _ _ ⟨hSS.1, fun _ => trivial⟩ ?_
        clear hK
        refine wpAnyE_one (i := 10) (by kernel_rfl) rfl (fun Kn hK => ?_)
        go_simp
        clear hSS
        have hSS : (fun X : World => X.cell? ⟨Q, 0, none⟩ = some (.int .i64 cl) ∧ X.cell? ⟨Q, 1, none⟩ = some (.int .i64 sq)) w4 ∧ True := ⟨⟨q0.cell 0, q0.cell 1⟩, trivial⟩
        refine hK.out _ _ ⟨hSS.1, fun _ => trivial⟩ ?_
        clear hK
        refine wpAnyE_done (by kernel_rfl) ?_ _
        clear hSS
        clear q0 A1 A2
        go_wp2
        go_ret
        exact ⟨rfl, BZ⟩
  · go_simp
    have al := (Below.refl V.heap.size V).alloc (Nat.le_refl _) (.cells #[.int .i64 sq] 3)
    have ib := one_intsC V sq 3
    replace BZ := BZ.trans (al.mono BZ.size)
    replace q0 := q0.below al
    clear al
    obtain ⟨Y1, hY1⟩ : ∃ W, W = V.alloc (.cells #[.int .i64 sq] 3) := ⟨_, rfl⟩
    rw [← hY1]
    rw [← hY1] at BZ q0 ib
    clear hY1
    clear hSS
    have hSS : (fun X : World => X.cell? ⟨Q, 0, none⟩ = some (.int .i64 cl) ∧ X.cell? ⟨Q, 1, none⟩ = some (.int .i64 sq)) Y1 ∧ True := ⟨⟨q0.cell 0, q0.cell 1⟩, trivial⟩
    refine hK.out _ _ ⟨hSS.1, fun _ => trivial⟩ ?_
    clear hK
    refine wpAnyE_one (i := 2) (by kernel_rfl) rfl (fun Kn hK => ?_)
    go_simp
    have al := (Below.refl Y1.heap.size Y1).alloc (Nat.le_refl _) (.cells #[.int .i64 cl] 3)
    have ia := one_intsC Y1 cl 3
    replace BZ := BZ.trans (al.mono BZ.size)
    replace q0 := q0.below al
    replace ib := ib.below al
    clear al
    obtain ⟨Y2, hY2⟩ : ∃ W, W = Y1.alloc (.cells #[.int .i64 cl] 3) := ⟨_, rfl⟩
    rw [← hY2]
    rw [← hY2] at BZ q0 ib ia
    clear hY2
    clear hSS
    have hSS : (fun X : World => X.cell? ⟨Q, 0, none⟩ = some (.int .i64 cl) ∧ X.cell? ⟨Q, 1, none⟩ = some (.int .i64 sq)) Y2 ∧ True := ⟨⟨q0.cell 0, q0.cell 1⟩, trivial⟩
    refine hK.out _ _ ⟨hSS.1, fun _ => trivial⟩ ?_
    clear hK
    refine wpAnyE_one (i := 3) (by kernel_rfl) rfl (fun Kn hK => ?_)
    go_simp
    refine (itwn_any wClient _ _ _ [cl] _ ia (by omega) (by decide) (fun i => by match i with | 0 => (simp only [List.getElem?_cons_zero, Option.getD_some]; omega) | i + 1 => simp) (fun X hX => HTB.out X (BZ.trans (hX.mono BZ.size)))).mono ?_
    rintro ee w3 ⟨rfl, b9⟩
    rw [E1.out]
    replace BZ := BZ.trans (b9.mono BZ.size)
    replace q0 := q0.below b9
    replace ib := ib.below b9
    replace ia := ia.below b9
    clear b9
    dsimp only
    clear hSS
    have hSS : (fun X : World => X.cell? ⟨Q, 0, none⟩ = some (.int .i64 cl) ∧ X.cell? ⟨Q, 1, none⟩ = some (.int .i64 sq)) w3 ∧ True := ⟨⟨q0.cell 0, q0.cell 1⟩, trivial⟩
    refine hK.out _ _ ⟨hSS.1, fun _ => trivial⟩ ?_
    clear hK
    refine wpAnyE_two (i := 4) (j := 8) (by kernel_rfl) rfl rfl (fun Kn hK => ?_) (fun Kn hK => ?_)
    · go_simp
      clear hSS
      have hSS : (fun X : World => X.cell? ⟨Q, 0, none⟩ = some (.int .i64 cl) ∧ X.cell? ⟨Q, 1, none⟩ = some (.int .i64 sq)) w3 ∧ True := ⟨⟨q0.cell 0, q0.cell 1⟩, trivial⟩
      refine hK.out _ _ ⟨hSS.1, fun _ => trivial⟩ ?_
      clear hK
      refine wpAnyE_one (i := 8) (by kernel_rfl) rfl (fun Kn hK => ?_)
      go_simp
      refine (itwn_any wCall _ _ _ [sq] _ ib (by omega) (by decide) (fun i => by match i with | 0 => (simp only [List.getElem?_cons_zero, Option.getD_some]; omega) | i + 1 => simp) (fun X hX => HTB.out X (BZ.trans (hX.mono BZ.size)))).mono ?_
      rintro ee w4 ⟨rfl, b9⟩
      rw [E3.out]
      replace BZ := BZ.trans (b9.mono BZ.size)
      replace q0 := q0.below b9
      replace ib := ib.below b9
      replace ia := ia.below b9
      clear b9
      dsimp only
      clear hSS
      have hSS : (fun X : World => X.cell? ⟨Q, 0, none⟩ = some (.int .i64 cl) ∧ X.cell? ⟨Q, 1, none⟩ = some (.int .i64 sq)) w4 ∧ True := ⟨⟨q0.cell 0, q0.cell 1⟩, trivial⟩
      refine hK.out _ _ ⟨hSS.1, fun _ => trivial⟩ ?_
      clear hK
      refine wpAnyE_one (i := 9) (by kernel_rfl) rfl (fun Kn hK => ?_)
      go_simp
      clear hSS
      have hSS : (fun X : World => X.cell? ⟨Q, 0, none⟩ = some (.int .i64 cl) ∧ X.cell? ⟨Q, 1, none⟩ = some (.int .i64 sq)) w4 ∧ True := ⟨⟨q0.cell 0, q0.cell 1⟩, trivial⟩
      refine hK.out _ _ ⟨hSS.1, fun _ => trivial⟩ ?_
      clear hK
      refine wpAnyE_one (i := 10) (by kernel_rfl) rfl (fun Kn hK => ?_)
      go_simp
      clear hSS
      have hSS : (fun X : World => X.cell? ⟨Q, 0, none⟩ = some (.int .i64 cl) ∧ X.cell? ⟨Q, 1, none⟩ = some (.int .i64 sq)) w4 ∧ True := ⟨⟨q0.cell 0, q0.cell 1⟩, trivial⟩
      refine hK.out _ _ ⟨hSS.1, fun _ => trivial⟩ ?_
      clear hK
      refine wpAnyE_done (by kernel_rfl) ?_ _
      clear hSS
      clear q0 A1 A2
      go_wp2
      go_ret
      exact ⟨rfl, BZ⟩
    · go_simp
      refine (itwn_any wCall _ _ _ [sq] _ ib (by omega) (by decide) (fun i => by match i with | 0 => (simp only [List.getElem?_cons_zero, Option.getD_some]; omega) | i + 1 => simp) (fun X hX => HTB.out X (BZ.trans (hX.mono BZ.size)))).mono ?_
      rintro ee w4 ⟨rfl, b9⟩
      rw [E3.out]
      replace BZ := BZ.trans (b9.mono BZ.size)
      replace q0 := q0.below b9
      replace ib := ib.below b9
      replace ia := ia.below b9
      clear b9
      dsimp only
      clear hSS
      have hSS : (fun X : World => X.cell? ⟨Q, 0, none⟩ = some (.int .i64 cl) ∧ X.cell? ⟨Q, 1, none⟩ = some (.int .i64 sq)) w4 ∧ True := ⟨⟨q0.cell 0, q0.cell 1⟩, trivial⟩
      refine hK.out _ _ ⟨hSS.1, fun _ => trivial⟩ ?_
      clear hK
      refine wpAnyE_one (i := 4) (by kernel_rfl) rfl (fun Kn hK => ?_)
      go_simp
      clear hSS
      have hSS : (fun X : World => X.cell? ⟨Q, 0, none⟩ = some (.int .i64 cl) ∧ X.cell? ⟨Q, 1, none⟩ = some (.int .i64 sq)) w4 ∧ True := ⟨⟨q0.cell 0, q0.cell 1⟩, trivial⟩
      refine hK.out _ _ ⟨hSS.1, fun _ => trivial⟩ ?_
      clear hK
      refine wpAnyE_one (i := 9) (by kernel_rfl) rfl (fun Kn hK => ?_)
      go_simp
      clear hSS
      have hSS : (fun X : World => X.cell? ⟨Q, 0, none⟩ = some (.int .i64 cl) ∧ X.cell? ⟨Q, 1, none⟩ = some (.int .i64 sq)) w4 ∧ True := ⟨⟨q0.cell 0, q0.cell 1⟩, trivial⟩
      refine hK.out _ _ ⟨hSS.1, fun _ => trivial⟩ ?_
      clear hK
      refine wpAnyE_one (i := 10) (by kernel_rfl) rfl (fun Kn hK => ?_)
      go_simp
      clear hSS
      have hSS : (fun X : World => X.cell? ⟨Q, 0, none⟩ = some (.int .i64 cl) ∧ X.cell? ⟨Q, 1, none⟩ = some (.int .i64 sq)) w4 ∧ True := ⟨⟨q0.cell 0, q0.cell 1⟩, trivial⟩
      refine hK.out _ _ ⟨hSS.1, fun _ => trivial⟩ ?_
      clear hK
      refine wpAnyE_done (by kernel_rfl) ?_ _
      clear hSS
      clear q0 A1 A2
      go_wp2
      go_ret
      exact ⟨rfl, BZ⟩
theorem JT.lit3 (w : World) (x1 x2 x3 : ByteArray) : JT w (.slice (some ⟨w.heap.size, 0, none⟩) 3 3) [x1, x2, x3] (w.alloc (.cells #[.string x1, .string x2, .string x3] 9)) :=
  ⟨(Below.refl _ _).alloc (Nat.le_refl _) _, World.ownsRow_lit w #[.string x1, .string x2, .string x3] 3 (Nat.le_refl _) (by unfold maxLen; omega) rfl⟩
theorem cjoin (cl sq ac : Int) (zs : List Int) : Lib.join ([(⟨(casL cl sq).toArray⟩ : ByteArray), ⟨(wAct ++ tailL [ac]).toArray⟩, ⟨(wWith ++ tailL zs).toArray⟩].map (·.data.toList)) [32] = callL cl sq ac zs := by
  rw [List.map_cons, Lib.join_cons, callL, casL, tail_one]
  simp [Lib.joinTail]
set_option maxHeartbeats 6400000 in
theorem ictext_any (cl sq ac : Int) (a : Option Addr) (n cap : Nat) (zs : List Int) (w : World) (hC : Ints w a n zs) (hn : n ≤ 1048576) (hT : Lib.TabBelow Tryd.prog w.heap.size w "internal/strconv.uint64pow10" .u64 Lib.pow10Tab) :
    Calls Tryd.prog 37 #[clV cl sq ac a n cap] w fun e w' => e = .returned (.string ⟨(callText cl sq ac n zs).toArray⟩) ∧ Below w.heap.size w w' := by
  have HTB : Hid _ := hT
  clear hT
  have q_0 := Cel.new w [.int .i64 cl, .int .i64 sq, .int .i64 ac, .slice a n cap] 57
  have B_0 := (Below.refl w.heap.size w).alloc (Nat.le_refl _) (.cells #[.int .i64 cl, .int .i64 sq, .int .i64 ac, .slice a n cap] 57)
  have q_s := q_0.alloc (.cells #[.int .i64 sq] 3)
  have B_s := B_0.alloc B_0.size (.cells #[.int .i64 sq] 3)
  have i_s := one_intsC (w.alloc (.cells #[.int .i64 cl, .int .i64 sq, .int .i64 ac, .slice a n cap] 57)) sq 3
  rw [World.size_alloc] at i_s
  obtain ⟨i0, hi, hz0, hz1, hz2⟩ := info_parts Tryd.infoStr
  obtain ⟨x1, hx1⟩ : ∃ x, x = decide (0 ≤ cl ∧ cl < 4) := ⟨_, rfl⟩
  obtain ⟨x2, hx2⟩ : ∃ x, x = betB 1 300 [sq] := ⟨_, rfl⟩
  obtain ⟨x3, hx3⟩ : ∃ x, x = decide (0 ≤ ac ∧ ac < 4) := ⟨_, rfl⟩
  obtain ⟨x4, hx4⟩ : ∃ x, x = okN 2 9 n zs := ⟨_, rfl⟩
  have pl : ∀ z : Int, decide (0 ≤ z ∧ z < 4) = inB z 0 3 := fun z => by
    cases h : inB z 0 3
    · have := inB_not.1 h; simp; omega
    · have := inB_iff.1 h; simp; omega
  have HB : Hid (callOkB cl sq ac n zs = (x1 && (x2 && (x3 && x4)))) := by show _ = _; rw [callOkB, hx1, hx2, hx3, hx4, bet_oneC, pl, pl]
  have H1 : Hid _ := hx1
  have H2 : Hid _ := hx2
  have H3 : Hid _ := hx3
  have H4 : Hid _ := hx4
  clear hx1 hx2 hx3 hx4 pl
  go_enter Tryd.func37, Tryd.ntmps37
  go_wp2_with fail
  refine (place_any _ _ _).mono ?_
  rintro e w1 ⟨rfl, rfl⟩
  rw [← H1.out]
  cases x1
  · go_wp2
    go_ret
    exact ⟨ret_str (callText_no (by rw [HB.out]; rfl)).symm, B_0⟩
  go_wp2_with fail
  refine (between_any _ _ _ [sq] _ _ _ i_s (by omega)).mono ?_
  rintro e w1 ⟨rfl, rfl⟩
  rw [← H2.out]
  clear i_s q_0
  cases x2
  · go_wp2
    go_ret
    exact ⟨ret_str (callText_no (by rw [HB.out]; rfl)).symm, B_s⟩
  go_wp2_with fail
  refine (place_any _ _ _).mono ?_
  rintro e w1 ⟨rfl, rfl⟩
  rw [← H3.out]
  cases x3
  · go_wp2
    go_ret
    exact ⟨ret_str (callText_no (by rw [HB.out]; rfl)).symm, B_s⟩
  go_wp2_with fail
  refine (iarg_any _ _ _ zs _ (hC.below B_s) hn).mono ?_
  rintro e w1 ⟨rfl, rfl⟩
  rw [← H4.out]
  cases x4
  · go_wp2
    go_ret
    exact ⟨ret_str (callText_no (by rw [HB.out]; rfl)).symm, B_s⟩
  have b1 := of_decide_eq_true H1.out.symm
  have b2 := inB_iff.1 ((bet_oneC sq 1 300).symm.trans H2.out.symm)
  have b3 := of_decide_eq_true H3.out.symm
  have hn2 : (n : Int) = 2 := by
    by_cases h : (n : Int) = 2
    · exact h
    · have := H4.out; rw [okN_not h] at this; cases this
  have hal : allB 9 zs = true := by have := H4.out; rw [okN_is hn2] at this; exact this.symm
  obtain rfl : n = 2 := by omega
  have BZ : Hid (∀ i : Nat, -9 ≤ zs[i]?.getD 0 ∧ zs[i]?.getD 0 ≤ 9) := allB_bnd' (by omega) hal
  have HL : Hid (zs.length = 2) := hC.1
  have HT : Hid (callText cl sq ac 2 zs = callL cl sq ac zs) := callText_yes (by rw [HB.out]; rfl)
  clear hal hn2 HB H1 H2 H3 H4 B_0
  obtain ⟨T1, e1⟩ : ∃ T : ByteArray, (⟨(casL cl sq).toArray⟩ : ByteArray) = T := ⟨_, rfl⟩
  obtain ⟨T2, e2⟩ : ∃ T : ByteArray, (⟨(wAct ++ tailL [ac]).toArray⟩ : ByteArray) = T := ⟨_, rfl⟩
  obtain ⟨T3, e3⟩ : ∃ T : ByteArray, (⟨(wWith ++ tailL zs).toArray⟩ : ByteArray) = T := ⟨_, rfl⟩
  have HJE : Hid (Lib.join ([T1, T2, T3].map (·.data.toList)) [32] = callL cl sq ac zs) := by show _ = _; rw [← e1, ← e2, ← e3]; exact cjoin cl sq ac zs
  have HLE : Hid ((callL cl sq ac zs).length ≤ 1000) := by
    show _ ≤ _
    have t1 := tail_len (zs := zs) (fun i => by have := BZ.out i; omega) zs.length (Nat.le_refl _)
    rw [List.take_length, HL.out] at t1
    have u1 := Lib.itoa_length_le cl (by omega) (by omega)
    have u2 := Lib.itoa_length_le sq (by omega) (by omega)
    have u3 := Lib.itoa_length_le ac (by omega) (by omega)
    rw [callL]
    simp only [List.length_append, List.length_cons, List.length_nil, wClient, wCall, wAct, wWith]
    omega
  have E1 : Hid _ := e1
  have E2 : Hid _ := e2
  have E3 : Hid _ := e3
  have HZ : Hid (∀ i : Nat, -9 ≤ zs[i]?.getD 0 ∧ zs[i]?.getD 0 ≤ 9) := BZ.out
  clear e1 e2 e3 BZ
  have hCs := hC.below B_s
  clear hC
  go_upto_region 3 with fail
  obtain ⟨W, hW⟩ : ∃ W, W = (w.alloc (.cells #[.int .i64 cl, .int .i64 sq, .int .i64 ac, .slice a 2 cap] 57)).alloc (.cells #[.int .i64 sq] 3) := ⟨_, rfl⟩
  obtain ⟨Q, hQ⟩ : ∃ Q, Q = w.heap.size := ⟨_, rfl⟩
  rw [← hQ, ← hW]
  rw [← hW] at q_s B_s hCs
  rw [← hQ] at q_s
  clear hW hQ
  have BZ := B_s
  clear B_s
  refine wp_region_ends (fun X => X.cell? ⟨Q, 0, none⟩ = some (.int .i64 cl) ∧ X.cell? ⟨Q, 1, none⟩ = some (.int .i64 sq) ∧ X.cell? ⟨Q, 2, none⟩ = some (.int .i64 ac) ∧ X.cell? ⟨Q, 3, none⟩ = some (.slice a 2 cap)) (fun _ => True) 10 (by kernel_rfl) ?_
  have dr : Below W.heap.size W W.drew := (Below.refl _ _).drew
  replace BZ := BZ.trans (dr.mono BZ.size)
  replace q_s := q_s.below dr
  replace hCs := hCs.below dr
  clear dr
  obtain ⟨V, hV⟩ : ∃ V, V = W.drew := ⟨_, rfl⟩
  rw [← hV]
  rw [← hV] at BZ q_s hCs
  clear hV
  have hSS : (fun X : World => X.cell? ⟨Q, 0, none⟩ = some (.int .i64 cl) ∧ X.cell? ⟨Q, 1, none⟩ = some (.int .i64 sq) ∧ X.cell? ⟨Q, 2, none⟩ = some (.int .i64 ac) ∧ X.cell? ⟨Q, 3, none⟩ = some (.slice a 2 cap)) V ∧ True := ⟨⟨q_s.cell 0, q_s.cell 1, q_s.cell 2, q_s.cell 3⟩, trivial⟩
  refine tkL (i := 0) rfl hSS ?_
  refine tkL (i := 2) rfl hSS ?_
  refine tkL (i := 3) rfl hSS ?_
  refine tkL (i := 6) rfl hSS ?_
  simp only [Act.put, List.setIfInBounds_toArray, List.set_cons_succ, List.set_cons_zero, List.getElem_toArray, List.getElem_cons_succ, List.getElem_cons_zero]
  refine tkL (i := 7) rfl hSS ?_
  refine wpAnyE_two (i := 1) (j := 4) (by kernel_rfl) rfl rfl (fun Kn hK => ?_) (fun Kn hK => ?_)
  · go_simp
    refine (icas_any cl sq ac a 2 cap _ b1 b2 (fun X hX => HTB.out X (BZ.trans (hX.mono BZ.size)))).mono ?_
    rintro ee w1 ⟨rfl, b9⟩
    rw [E1.out]
    replace BZ := BZ.trans (b9.mono BZ.size)
    replace q_s := q_s.below b9
    replace hCs := hCs.below b9
    clear b9
    dsimp only
    clear hSS
    have hSS : (fun X : World => X.cell? ⟨Q, 0, none⟩ = some (.int .i64 cl) ∧ X.cell? ⟨Q, 1, none⟩ = some (.int .i64 sq) ∧ X.cell? ⟨Q, 2, none⟩ = some (.int .i64 ac) ∧ X.cell? ⟨Q, 3, none⟩ = some (.slice a 2 cap)) w1 ∧ True := ⟨⟨q_s.cell 0, q_s.cell 1, q_s.cell 2, q_s.cell 3⟩, trivial⟩
    refine hK.out _ _ ⟨hSS.1, fun _ => trivial⟩ ?_
    clear hK
    refine wpAnyE_one (i := 4) (by kernel_rfl) rfl (fun Kn hK => ?_)
    go_simp
    have al := (Below.refl w1.heap.size w1).alloc (Nat.le_refl _) (.cells #[.int .i64 ac] 3)
    have ia := one_intsC w1 ac 3
    replace BZ := BZ.trans (al.mono BZ.size)
    replace q_s := q_s.below al
    replace hCs := hCs.below al
    clear al
    obtain ⟨Y2, hY2⟩ : ∃ W, W = w1.alloc (.cells #[.int .i64 ac] 3) := ⟨_, rfl⟩
    rw [← hY2]
    rw [← hY2] at BZ q_s hCs ia
    clear hY2
    clear hSS
    have hSS : (fun X : World => X.cell? ⟨Q, 0, none⟩ = some (.int .i64 cl) ∧ X.cell? ⟨Q, 1, none⟩ = some (.int .i64 sq) ∧ X.cell? ⟨Q, 2, none⟩ = some (.int .i64 ac) ∧ X.cell? ⟨Q, 3, none⟩ = some (.slice a 2 cap)) Y2 ∧ True := ⟨⟨q_s.cell 0, q_s.cell 1, q_s.cell 2, q_s.cell 3⟩, trivial⟩
    refine hK.out _ _ ⟨hSS.1, fun _ => trivial⟩ ?_
    clear hK
    refine wpAnyE_one (i := 5) (by kernel_rfl) rfl (fun Kn hK => ?_)
    go_simp
    refine (itwn_any wAct _ _ _ [ac] _ ia (by omega) (by decide) (fun i => by match i with | 0 => (simp only [List.getElem?_cons_zero, Option.getD_some]; omega) | i + 1 => simp) (fun X hX => HTB.out X (BZ.trans (hX.mono BZ.size)))).mono ?_
    rintro ee w3 ⟨rfl, b9⟩
    rw [E2.out]
    replace BZ := BZ.trans (b9.mono BZ.size)
    replace q_s := q_s.below b9
    replace hCs := hCs.below b9
    replace ia := ia.below b9
    clear b9
    dsimp only
    clear hSS
    have hSS : (fun X : World => X.cell? ⟨Q, 0, none⟩ = some (.int .i64 cl) ∧ X.cell? ⟨Q, 1, none⟩ = some (.int .i64 sq) ∧ X.cell? ⟨Q, 2, none⟩ = some (.int .i64 ac) ∧ X.cell? ⟨Q, 3, none⟩ = some (.slice a 2 cap)) w3 ∧ True := ⟨⟨q_s.cell 0, q_s.cell 1, q_s.cell 2, q_s.cell 3⟩, trivial⟩
    refine hK.out _ _ ⟨hSS.1, fun _ => trivial⟩ ?_
    clear hK
    refine wpAnyE_one (i := 8) (by kernel_rfl) rfl (fun Kn hK => ?_)
    go_simp
    refine (itwn_any wWith _ _ _ zs _ hCs (by omega) (by decide) (fun i => by have := HZ.out i; omega) (fun X hX => HTB.out X (BZ.trans (hX.mono BZ.size)))).mono ?_
    rintro ee w4 ⟨rfl, b9⟩
    rw [E3.out]
    replace BZ := BZ.trans (b9.mono BZ.size)
    replace q_s := q_s.below b9
    replace hCs := hCs.below b9
    replace ia := ia.below b9
    clear b9
    dsimp only
    clear hSS
    have hSS : (fun X : World => X.cell? ⟨Q, 0, none⟩ = some (.int .i64 cl) ∧ X.cell? ⟨Q, 1, none⟩ = some (.int .i64 sq) ∧ X.cell? ⟨Q, 2, none⟩ = some (.int .i64 ac) ∧ X.cell? ⟨Q, 3, none⟩ = some (.slice a 2 cap)) w4 ∧ True := ⟨⟨q_s.cell 0, q_s.cell 1, q_s.cell 2, q_s.cell 3⟩, trivial⟩
    refine hK.out _ _ ⟨hSS.1, fun _ => trivial⟩ ?_
    clear hK
    refine wpAnyE_one (i := 9) (by kernel_rfl) rfl (fun Kn hK => ?_)
    go_simp
    have J0 := JT.lit3 w4 T1 T2 T3
    have al := J0.b
    have jo := J0
    replace BZ := BZ.trans (al.mono BZ.size)
    replace q_s := q_s.below al
    replace hCs := hCs.below al
    replace ia := ia.below al
    clear al
    obtain ⟨Y5, hY5⟩ : ∃ W, W = w4.alloc (.cells #[.string T1, .string T2, .string T3] 9) := ⟨_, rfl⟩
    rw [← hY5]
    rw [← hY5] at BZ J0 jo q_s hCs ia
    clear hY5
    clear hSS
    have hSS : (fun X : World => X.cell? ⟨Q, 0, none⟩ = some (.int .i64 cl) ∧ X.cell? ⟨Q, 1, none⟩ = some (.int .i64 sq) ∧ X.cell? ⟨Q, 2, none⟩ = some (.int .i64 ac) ∧ X.cell? ⟨Q, 3, none⟩ = some (.slice a 2 cap)) Y5 ∧ True := ⟨⟨q_s.cell 0, q_s.cell 1, q_s.cell 2, q_s.cell 3⟩, trivial⟩
    refine hK.out _ _ ⟨hSS.1, fun _ => trivial⟩ ?_
    clear hK
    refine wpAnyE_one (i := 10) (by kernel_rfl) rfl (fun Kn hK => ?_)
    go_simp
    clear hSS
    have hSS : (fun X : World => X.cell? ⟨Q, 0, none⟩ = some (.int .i64 cl) ∧ X.cell? ⟨Q, 1, none⟩ = some (.int .i64 sq) ∧ X.cell? ⟨Q, 2, none⟩ = some (.int .i64 ac) ∧ X.cell? ⟨Q, 3, none⟩ = some (.slice a 2 cap)) Y5 ∧ True := ⟨⟨q_s.cell 0, q_s.cell 1, q_s.cell 2, q_s.cell 3⟩, trivial⟩
    refine hK.out _ _ ⟨hSS.1, fun _ => trivial⟩ ?_
    clear hK
    refine wpAnyE_done (by kernel_rfl) ?_ _
    clear hSS
    clear q_s hCs
    obtain ⟨g, gc, eg, hcap, hg, hcs⟩ := J0.cells (k := 3) rfl (by omega)
    rw [eg]
    clear eg
    have HJ := Tryd.strings_Join g 0 gc [T1, T2, T3] ⟨#[32]⟩ Y5 hcs hg (by simp) (by simpa using hcap) (by
      rw [show (⟨#[32]⟩ : ByteArray).data.toList = [32] from rfl, HJE.out]
      have := HLE.out
      omega)
    clear hcs hcap hg J0 jo
    go_wp2_with fail
    refine HJ.mono ?_
    rintro e wE ⟨rfl, b9⟩
    have B2 := BZ.trans (b9.mono BZ.size)
    rw [HJE.out, ← HT.out]
    obtain ⟨ZZ, hZZ⟩ : ∃ Z : ByteArray, (⟨(callText cl sq ac 2 zs).toArray⟩ : ByteArray) = Z := ⟨_, rfl⟩
    rw [hZZ]
    have HZZ : Hid _ := hZZ
    clear hZZ HJ
    go_wp2
    go_ret
    exact ⟨by rw [HZZ.out]; rfl, B2⟩
  · go_simp
    have al := (Below.refl V.heap.size V).alloc (Nat.le_refl _) (.cells #[.int .i64 ac] 3)
    have ia := one_intsC V ac 3
    replace BZ := BZ.trans (al.mono BZ.size)
    replace q_s := q_s.below al
    replace hCs := hCs.below al
    clear al
    obtain ⟨Y1, hY1⟩ : ∃ W, W = V.alloc (.cells #[.int .i64 ac] 3) := ⟨_, rfl⟩
    rw [← hY1]
    rw [← hY1] at BZ q_s hCs ia
    clear hY1
    clear hSS
    have hSS : (fun X : World => X.cell? ⟨Q, 0, none⟩ = some (.int .i64 cl) ∧ X.cell? ⟨Q, 1, none⟩ = some (.int .i64 sq) ∧ X.cell? ⟨Q, 2, none⟩ = some (.int .i64 ac) ∧ X.cell? ⟨Q, 3, none⟩ = some (.slice a 2 cap)) Y1 ∧ True := ⟨⟨q_s.cell 0, q_s.cell 1, q_s.cell 2, q_s.cell 3⟩, trivial⟩
    refine hK.out _ _ ⟨hSS.1, fun _ => trivial⟩ ?_
    clear hK
    refine wpAnyE_one (i := 1) (by kernel_rfl) rfl (fun Kn hK => ?_)
    go_simp
    refine (icas_any cl sq ac a 2 cap _ b1 b2 (fun X hX => HTB.out X (BZ.trans (hX.mono BZ.size)))).mono ?_
    rintro ee w2 ⟨rfl, b9⟩
    rw [E1.out]
    replace BZ := BZ.trans (b9.mono BZ.size)
    replace q_s := q_s.below b9
    replace hCs := hCs.below b9
    replace ia := ia.below b9
    clear b9
    dsimp only
    clear hSS
    have hSS : (fun X : World => X.cell? ⟨Q, 0, none⟩ = some (.int .i64 cl) ∧ X.cell? ⟨Q, 1, none⟩ = some (.int .i64 sq) ∧ X.cell? ⟨Q, 2, none⟩ = some (.int .i64 ac) ∧ X.cell? ⟨Q, 3, none⟩ = some (.slice a 2 cap)) w2 ∧ True := ⟨⟨q_s.cell 0, q_s.cell 1, q_s.cell 2, q_s.cell 3⟩, trivial⟩
    refine hK.out _ _ ⟨hSS.1, fun _ => trivial⟩ ?_
    clear hK
    refine wpAnyE_one (i := 5) (by kernel_rfl) rfl (fun Kn hK => ?_)
    go_simp
    refine (itwn_any wAct _ _ _ [ac] _ ia (by omega) (by decide) (fun i => by match i with | 0 => (simp only [List.getElem?_cons_zero, Option.getD_some]; omega) | i + 1 => simp) (fun X hX => HTB.out X (BZ.trans (hX.mono BZ.size)))).mono ?_
    rintro ee w3 ⟨rfl, b9⟩
    rw [E2.out]
    replace BZ := BZ.trans (b9.mono BZ.size)
    replace q_s := q_s.below b9
    replace hCs := hCs.below b9
    replace ia := ia.below b9
    clear b9
    dsimp only
    clear hSS
    have hSS : (fun X : World => X.cell? ⟨Q, 0, none⟩ = some (.int .i64 cl) ∧ X.cell? ⟨Q, 1, none⟩ = some (.int .i64 sq) ∧ X.cell? ⟨Q, 2, none⟩ = some (.int .i64 ac) ∧ X.cell? ⟨Q, 3, none⟩ = some (.slice a 2 cap)) w3 ∧ True := ⟨⟨q_s.cell 0, q_s.cell 1, q_s.cell 2, q_s.cell 3⟩, trivial⟩
    refine hK.out _ _ ⟨hSS.1, fun _ => trivial⟩ ?_
    clear hK
    refine wpAnyE_one (i := 8) (by kernel_rfl) rfl (fun Kn hK => ?_)
    go_simp
    refine (itwn_any wWith _ _ _ zs _ hCs (by omega) (by decide) (fun i => by have := HZ.out i; omega) (fun X hX => HTB.out X (BZ.trans (hX.mono BZ.size)))).mono ?_
    rintro ee w4 ⟨rfl, b9⟩
    rw [E3.out]
    replace BZ := BZ.trans (b9.mono BZ.size)
    replace q_s := q_s.below b9
    replace hCs := hCs.below b9
    replace ia := ia.below b9
    clear b9
    dsimp only
    clear hSS
    have hSS : (fun X : World => X.cell? ⟨Q, 0, none⟩ = some (.int .i64 cl) ∧ X.cell? ⟨Q, 1, none⟩ = some (.int .i64 sq) ∧ X.cell? ⟨Q, 2, none⟩ = some (.int .i64 ac) ∧ X.cell? ⟨Q, 3, none⟩ = some (.slice a 2 cap)) w4 ∧ True := ⟨⟨q_s.cell 0, q_s.cell 1, q_s.cell 2, q_s.cell 3⟩, trivial⟩
    refine hK.out _ _ ⟨hSS.1, fun _ => trivial⟩ ?_
    clear hK
    refine wpAnyE_one (i := 9) (by kernel_rfl) rfl (fun Kn hK => ?_)
    go_simp
    have J0 := JT.lit3 w4 T1 T2 T3
    have al := J0.b
    have jo := J0
    replace BZ := BZ.trans (al.mono BZ.size)
    replace q_s := q_s.below al
    replace hCs := hCs.below al
    replace ia := ia.below al
    clear al
    obtain ⟨Y5, hY5⟩ : ∃ W, W = w4.alloc (.cells #[.string T1, .string T2, .string T3] 9) := ⟨_, rfl⟩
    rw [← hY5]
    rw [← hY5] at BZ J0 jo q_s hCs ia
    clear hY5
    clear hSS
    have hSS : (fun X : World => X.cell? ⟨Q, 0, none⟩ = some (.int .i64 cl) ∧ X.cell? ⟨Q, 1, none⟩ = some (.int .i64 sq) ∧ X.cell? ⟨Q, 2, none⟩ = some (.int .i64 ac) ∧ X.cell? ⟨Q, 3, none⟩ = some (.slice a 2 cap)) Y5 ∧ True := ⟨⟨q_s.cell 0, q_s.cell 1, q_s.cell 2, q_s.cell 3⟩, trivial⟩
    refine hK.out _ _ ⟨hSS.1, fun _ => trivial⟩ ?_
    clear hK
    refine wpAnyE_one (i := 10) (by kernel_rfl) rfl (fun Kn hK => ?_)
    go_simp
    clear hSS
    have hSS : (fun X : World => X.cell? ⟨Q, 0, none⟩ = some (.int .i64 cl) ∧ X.cell? ⟨Q, 1, none⟩ = some (.int .i64 sq) ∧ X.cell? ⟨Q, 2, none⟩ = some (.int .i64 ac) ∧ X.cell? ⟨Q, 3, none⟩ = some (.slice a 2 cap)) Y5 ∧ True := ⟨⟨q_s.cell 0, q_s.cell 1, q_s.cell 2, q_s.cell 3⟩, trivial⟩
    refine hK.out _ _ ⟨hSS.1, fun _ => trivial⟩ ?_
    clear hK
    refine wpAnyE_done (by kernel_rfl) ?_ _
    clear hSS
    clear q_s hCs
    obtain ⟨g, gc, eg, hcap, hg, hcs⟩ := J0.cells (k := 3) rfl (by omega)
    rw [eg]
    clear eg
    have HJ := Tryd.strings_Join g 0 gc [T1, T2, T3] ⟨#[32]⟩ Y5 hcs hg (by simp) (by simpa using hcap) (by
      rw [show (⟨#[32]⟩ : ByteArray).data.toList = [32] from rfl, HJE.out]
      have := HLE.out
      omega)
    clear hcs hcap hg J0 jo
    go_wp2_with fail
    refine HJ.mono ?_
    rintro e wE ⟨rfl, b9⟩
    have B2 := BZ.trans (b9.mono BZ.size)
    rw [HJE.out, ← HT.out]
    obtain ⟨ZZ, hZZ⟩ : ∃ Z : ByteArray, (⟨(callText cl sq ac 2 zs).toArray⟩ : ByteArray) = Z := ⟨_, rfl⟩
    rw [hZZ]
    have HZZ : Hid _ := hZZ
    clear hZZ HJ
    go_wp2
    go_ret
    exact ⟨by rw [HZZ.out]; rfl, B2⟩

end Go.Proofs.YtfkcfjkojfnfnaaDoor
namespace Go.Proofs.YtfkcfjkojfnfnaaDoor
open Go.RowKit
set_option linter.unusedVariables false
set_option maxRecDepth 100000

/-- A text is not empty. -/
def fullC (l : List UInt8) : Bool := !(⟨l.toArray⟩ : ByteArray).toList.isEmpty
theorem full_call (x sq ac : Int) (n : Nat) (zs : List Int) : fullC (callText x sq ac n zs) = callOkB x sq ac n zs := by
  cases h : callOkB x sq ac n zs
  · rw [callText_no h, fullC, ByteArray.toList_mk]; rfl
  · rw [callText_yes h, fullC, ByteArray.toList_mk, callL]; rfl
/-- A call is ok in a plan that is. -/
def inCallB (cl : Int) (N : Nat) (x sq ac : Int) (n : Nat) (zs : List Int) : Bool := inB x 0 (cl - 1) && (inB sq 1 300 && (inB ac 0 (N - 1) && okN 2 9 n zs))
theorem pln_acts {cl : Int} {N : Nat} {ss : List L2V} {gn : Nat} {G : List Int} {sn : Nat} {S : List Int} (h : plnB cl N ss gn G sn S = true) : 1 ≤ N ∧ N ≤ 4 := by
  simp only [plnB, catB, Bool.and_eq_true] at h
  have h1 := inB_iff.1 h.2.1.1
  omega
theorem inCall_same {cl : Int} {N : Nat} {x sq ac : Int} {n : Nat} {zs : List Int} (h1 : cl ≤ 4) (h2 : N ≤ 4) : (decide (0 ≤ x ∧ x < cl) && (decide (0 ≤ ac ∧ ac < (N : Int)) && fullC (callText x sq ac n zs))) = inCallB cl N x sq ac n zs := by
  rw [full_call, callOkB, inCallB]
  have e1 : decide (0 ≤ x ∧ x < cl) = inB x 0 (cl - 1) := by
    cases h : inB x 0 (cl - 1)
    · have := inB_not.1 h; simp; omega
    · have := inB_iff.1 h; simp; omega
  have e2 : decide (0 ≤ ac ∧ ac < (N : Int)) = inB ac 0 (N - 1) := by
    cases h : inB ac 0 (N - 1)
    · have := inB_not.1 h; simp; omega
    · have := inB_iff.1 h; simp; omega
  rw [e1, e2]
  cases h : inB x 0 (cl - 1)
  · simp
  · have g1 := inB_iff.1 h
    rw [inB_iff.2 (show 0 ≤ x ∧ x ≤ 3 by omega)]
    cases h' : inB ac 0 (N - 1)
    · simp
    · have g2 := inB_iff.1 h'
      rw [inB_iff.2 (show 0 ≤ ac ∧ ac ≤ 3 by omega)]
      simp

set_option maxHeartbeats 1600000 in
theorem l6call_any (cl : Int) (ad : Option Addr) (N cap : Nat) (ga : Option Addr) (gn gc : Nat) (sa : Option Addr) (sn sc : Nat) (x sq ac : Int) (a : Option Addr) (n cc : Nat) (zs : List Int) (w : World) (hC : Ints w a n zs) (hn : n ≤ 1048576) (h1 : 1 ≤ cl ∧ cl ≤ 4) (h2 : 1 ≤ N ∧ N ≤ 4) :
    Calls Tryd.prog 74 #[plV cl ad N cap ga gn gc sa sn sc, clV x sq ac a n cc] w fun e w' => e = .returned (.bool (inCallB cl N x sq ac n zs)) ∧ Below w.heap.size w w' := by
  have B_0 := ((Below.refl w.heap.size w).alloc (Nat.le_refl _) (.cells #[.int .i64 cl, .slice ad N cap, .slice ga gn gc, .slice sa sn sc] 55)).alloc (by simp) (.cells #[.int .i64 x, .int .i64 sq, .int .i64 ac, .slice a n cc] 57)
  obtain ⟨x1, hx1⟩ : ∃ y, y = inB x 0 (cl - 1) := ⟨_, rfl⟩
  obtain ⟨x2, hx2⟩ : ∃ y, y = inB sq 1 300 := ⟨_, rfl⟩
  obtain ⟨x3, hx3⟩ : ∃ y, y = inB ac 0 ((N : Int) - 1) := ⟨_, rfl⟩
  obtain ⟨x4, hx4⟩ : ∃ y, y = okN 2 9 n zs := ⟨_, rfl⟩
  have HB : Hid (inCallB cl N x sq ac n zs = (x1 && (x2 && (x3 && x4)))) := by show _ = _; rw [inCallB, hx1, hx2, hx3, hx4]
  have H1 : Hid _ := hx1
  have H2 : Hid _ := hx2
  have H3 : Hid _ := hx3
  have H4 : Hid _ := hx4
  clear hx1 hx2 hx3 hx4
  obtain ⟨c1, c2⟩ := h1
  obtain ⟨d1, d2⟩ := h2
  go_enter Tryd.func74, Tryd.ntmps74
  go_wp2_with fail
  refine (in_any _ _ _ _).mono ?_
  rintro e w1 ⟨rfl, rfl⟩
  rw [← H1.out]
  cases x1
  · go_wp2
    go_ret
    exact ⟨ret_bool (by rw [HB.out]; rfl), B_0⟩
  go_wp2_with fail
  refine (in_any _ _ _ _).mono ?_
  rintro e w1 ⟨rfl, rfl⟩
  rw [← H2.out]
  cases x2
  · go_wp2
    go_ret
    exact ⟨ret_bool (by rw [HB.out]; rfl), B_0⟩
  go_wp2_with fail
  refine (in_any _ _ _ _).mono ?_
  rintro e w1 ⟨rfl, rfl⟩
  rw [← H3.out]
  cases x3
  · go_wp2
    go_ret
    exact ⟨ret_bool (by rw [HB.out]; rfl), B_0⟩
  go_wp2_with fail
  refine (sarg_any _ _ _ zs _ (hC.below B_0) hn).mono ?_
  rintro e w1 ⟨rfl, rfl⟩
  rw [← H4.out]
  go_wp2
  go_ret
  exact ⟨ret_bool (by rw [HB.out]; rfl), B_0⟩

set_option maxHeartbeats 1600000 in
theorem scallok_any (cl : Int) (ad : Option Addr) (N cap : Nat) (ss : List L2V) (ga : Option Addr) (gn gc : Nat) (G : List Int) (sa : Option Addr) (sn sc : Nat) (S : List Int) (x sq ac : Int) (a : Option Addr) (n cc : Nat) (zs : List Int) (w : World) (h : PlAt w ad N ss ga gn G sa sn S) (hC : Ints w a n zs) (hn : n ≤ 1048576) :
    Calls Tryd.prog 35 #[plV cl ad N cap ga gn gc sa sn sc, clV x sq ac a n cc] w fun e w' => e = .returned (.bool (plnB cl N ss gn G sn S && inCallB cl N x sq ac n zs)) ∧ Below w.heap.size w w' := by
  have q_0 := (BP.new w [.int .i64 cl, .slice ad N cap, .slice ga gn gc, .slice sa sn sc] 55).alloc (.cells #[.int .i64 x, .int .i64 sq, .int .i64 ac, .slice a n cc] 57)
  have y_0 := Cel.new (w.alloc (.cells #[.int .i64 cl, .slice ad N cap, .slice ga gn gc, .slice sa sn sc] 55)) [.int .i64 x, .int .i64 sq, .int .i64 ac, .slice a n cc] 57
  rw [World.size_alloc] at y_0
  cases hp : plnB cl N ss gn G sn S
  · have HP : Hid _ := hp
    clear hp
    go_enter Tryd.func35, Tryd.ntmps35
    go_wp2_with fail
    refine (splnok_any _ _ _ _ ss _ _ _ G _ _ _ S _ ((h.alloc _).alloc _)).mono ?_
    rintro e w1 ⟨rfl, b1⟩
    rw [HP.out]
    have q_1 := q_0.below b1
    go_wp2
    go_ret
    exact ⟨ret_bool (by simp), q_1.b⟩
  have pp := (pln_parts hp).1
  have pa := pln_acts hp
  have HP : Hid _ := hp
  clear hp
  go_enter Tryd.func35, Tryd.ntmps35
  go_wp2_with fail
  refine (splnok_any _ _ _ _ ss _ _ _ G _ _ _ S _ ((h.alloc _).alloc _)).mono ?_
  rintro e w1 ⟨rfl, b1⟩
  rw [HP.out]
  have q_1 := q_0.below b1
  have y_1 := y_0.below b1
  clear q_0 y_0 b1
  obtain ⟨c0, c1, c2, c3⟩ := q_1.p.quadP
  obtain ⟨d0, d1, d2, d3⟩ := y_1.quadC
  go_wp2_with fail
  refine (l6call_any _ _ _ _ _ _ _ _ _ _ _ _ _ _ _ _ zs _ (hC.below q_1.b) hn pp pa).mono ?_
  rintro e w2 ⟨rfl, b2⟩
  have q_2 := q_1.below b2
  go_wp2
  go_ret
  exact ⟨ret_bool (by simp), q_2.b⟩

set_option maxHeartbeats 1600000 in
theorem icallok_any (cl : Int) (ad : Option Addr) (N cap : Nat) (ss : List L2V) (ga : Option Addr) (gn gc : Nat) (G : List Int) (sa : Option Addr) (sn sc : Nat) (S : List Int) (x sq ac : Int) (a : Option Addr) (n cc : Nat) (zs : List Int) (w : World) (h : PlAt w ad N ss ga gn G sa sn S) (hC : Ints w a n zs) (hn : n ≤ 1048576) (hT : Lib.TabBelow Tryd.prog w.heap.size w "internal/strconv.uint64pow10" .u64 Lib.pow10Tab) :
    Calls Tryd.prog 34 #[plV cl ad N cap ga gn gc sa sn sc, clV x sq ac a n cc] w fun e w' => e = .returned (.bool (plnB cl N ss gn G sn S && inCallB cl N x sq ac n zs)) ∧ Below w.heap.size w w' := by
  have HTB : Hid _ := hT
  clear hT
  have q_0 := (BP.new w [.int .i64 cl, .slice ad N cap, .slice ga gn gc, .slice sa sn sc] 55).alloc (.cells #[.int .i64 x, .int .i64 sq, .int .i64 ac, .slice a n cc] 57)
  have y_0 := Cel.new (w.alloc (.cells #[.int .i64 cl, .slice ad N cap, .slice ga gn gc, .slice sa sn sc] 55)) [.int .i64 x, .int .i64 sq, .int .i64 ac, .slice a n cc] 57
  rw [World.size_alloc] at y_0
  cases hp : plnB cl N ss gn G sn S
  · have HP : Hid _ := hp
    clear hp
    go_enter Tryd.func34, Tryd.ntmps34
    go_wp2_with fail
    refine (iplnok_any _ _ _ _ ss _ _ _ G _ _ _ S _ ((h.alloc _).alloc _)).mono ?_
    rintro e w1 ⟨rfl, b1⟩
    rw [HP.out]
    have q_1 := q_0.below b1
    go_wp2
    go_ret
    exact ⟨ret_bool (by simp), q_1.b⟩
  have pp := (pln_parts hp).1
  have pa := pln_acts hp
  have HP : Hid _ := hp
  clear hp
  obtain ⟨x1, hx1⟩ : ∃ y, y = decide (0 ≤ x ∧ x < cl) := ⟨_, rfl⟩
  obtain ⟨x2, hx2⟩ : ∃ y, y = decide (0 ≤ ac ∧ ac < (N : Int)) := ⟨_, rfl⟩
  obtain ⟨T, hx3⟩ : ∃ y : ByteArray, y = ⟨(callText x sq ac n zs).toArray⟩ := ⟨_, rfl⟩
  have HB : Hid (inCallB cl N x sq ac n zs = (x1 && (x2 && !T.toList.isEmpty))) := by show _ = _; rw [← inCall_same pp.2 pa.2, hx1, hx2, hx3]; rfl
  have H1 : Hid _ := hx1
  have H2 : Hid _ := hx2
  have H3 : Hid _ := hx3
  clear hx1 hx2 hx3
  go_enter Tryd.func34, Tryd.ntmps34
  go_wp2_with fail
  refine (iplnok_any _ _ _ _ ss _ _ _ G _ _ _ S _ ((h.alloc _).alloc _)).mono ?_
  rintro e w1 ⟨rfl, b1⟩
  rw [HP.out]
  have q_1 := q_0.below b1
  have y_1 := y_0.below b1
  clear q_0 y_0 b1
  obtain ⟨c0, c1, c2, c3⟩ := q_1.p.quadP
  obtain ⟨d0, d1, d2, d3⟩ := y_1.quadC
  go_wp2_with fail
  refine (place_any _ _ _).mono ?_
  rintro e w2 ⟨rfl, rfl⟩
  rw [← H1.out]
  cases x1
  · go_wp2
    go_ret
    exact ⟨ret_bool (by rw [HB.out]; rfl), q_1.b⟩
  go_wp2_with fail
  refine (place_any _ _ _).mono ?_
  rintro e w2 ⟨rfl, rfl⟩
  rw [← H2.out]
  cases x2
  · go_wp2
    go_ret
    exact ⟨ret_bool (by rw [HB.out]; rfl), q_1.b⟩
  have B_1 := q_1.b
  go_wp2_with fail
  refine (ictext_any _ _ _ _ _ _ zs _ (hC.below q_1.b) hn (fun w' h' => HTB.out w' (B_1.trans (h'.mono B_1.size)))).mono ?_
  rintro e w2 ⟨rfl, b2⟩
  rw [← H3.out]
  have q_2 := q_1.below b2
  clear c0 c1 c2 c3 d0 d1 d2 d3 q_1 y_1 B_1 b2
  go_wp2
  go_ret
  exact ⟨ret_bool (by rw [HB.out]; rfl), q_2.b⟩

end Go.Proofs.YtfkcfjkojfnfnaaDoor
