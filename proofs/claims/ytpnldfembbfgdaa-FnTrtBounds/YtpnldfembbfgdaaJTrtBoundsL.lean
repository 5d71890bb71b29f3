/-
  For all bytes FnTrtBounds returns true, and what came in reads behind the call as it did. No condition. (what one site knows is so for all)
-/
import Derived.Test.YtpnldfembbfgdaaJTrtBoundsB
import Derived.Test.YtpnldfembbfgdaaJTrtBoundsA
import Derived.Test.YtpnldfembbfgdaaKeyed
import Derived.Test.YtpnldfembbfgdaaDrA
import Derived.Test.YtpnldfembbfgdaaTk
import Derived.Test.YtpnldfembbfgdaaFvC
import Derived.Test.YtpnldfembbfgdaaOpen
namespace Go.Proofs.Ytpnldfembbfgdaa
open Go.RowKit Go.Deep
set_option linter.unusedVariables false

/-- The first k sites keep within a treaty. -/
def keepAll (n m : Nat) (C D : List Int) (ss ls : List IV) : Nat → Bool
  | 0 => true
  | k + 1 => keepAll n m C D ss ls k && keepB n m C D ss (k : Int) (ls[k]?.getD noI).n (ls[k]?.getD noI).x
theorem keepAll_false {n m : Nat} {C D : List Int} {ss ls : List IV} {k : Nat} (h : keepB n m C D ss (k : Int) (ls[k]?.getD noI).n (ls[k]?.getD noI).x = false) : ∀ N, k < N → keepAll n m C D ss ls N = false
  | 0, hN => by omega
  | N + 1, hN => by
    by_cases e : k = N
    · subst e; simp [keepAll, h]
    · rw [keepAll, keepAll_false h N (by omega)]; rfl
/-- Whether all keep within a treaty. -/
def allKeepB (n m : Nat) (C D : List Int) (ss ls : List IV) (L : Nat) : Bool := trtB n m C D && (decide ((L : Int) = m) && keepAll n m C D ss ls L)
theorem keepAll_copy {n m : Nat} {C D : List Int} {ss ts ls us : List IV} (hl : ts.length = ss.length) (h : copiesIS ss ts) (h' : copiesIS ls us) : ∀ N, N ≤ us.length → keepAll n m C D ts us N = keepAll n m C D ss ls N
  | 0, _ => rfl
  | N + 1, hN => by
    have c := h' N (by omega)
    rw [keepAll, keepAll, keepAll_copy hl h h' N (by omega), keepB_copy hl h, c.1, c.2]
theorem allKeepB_copy {n m : Nat} {C D : List Int} {ss ts ls us : List IV} {L : Nat} (hl : ts.length = ss.length) (h : copiesIS ss ts) (h' : copiesIS ls us) (hu : us.length = L) : allKeepB n m C D ts us L = allKeepB n m C D ss ls L := by
  rw [allKeepB, allKeepB, keepAll_copy hl h h' L (by omega)]

set_option maxHeartbeats 3200000 in
theorem sall_any (a : Option Addr) (n cap : Nat) (c : Option Addr) (m cap' : Nat) (ad : Option Addr) (N pc : Nat) (e : Option Addr) (L ec : Nat) (C D : List Int) (ss ls : List IV) (w : World)
    (hC : Ints w a n C) (hD : Ints w c m D) (hN : ss.length = N) (hF : ISG w ad ss) (hL : ls.length = L) (hE : ISG w e ls) (hn : n ≤ 1048576) (hm : m ≤ 1048576) (hN1 : N ≤ 1048576) (hL1 : L ≤ 1048576) :
    Calls Try.prog 30 #[treV a n cap c m cap', .slice ad N pc, .slice e L ec] w fun r w' => r = .returned (.bool (allKeepB n m C D ss ls L)) ∧ Below w.heap.size w w' := by
  have HN : Hid (ss.length = N) := hN
  have HL : Hid (ls.length = L) := hL
  clear hN hL
  have b0 := (Below.refl w.heap.size w).alloc (Nat.le_refl _) (.cells #[.slice a n cap, .slice c m cap'] 45)
  have q0 := Cel.new w [.slice a n cap, .slice c m cap'] 45
  cases h1 : trtB n m C D
  · go_enter Try.func30, Try.ntmps30
    go_wp2_with fail
    refine (strt_any _ _ _ _ _ _ C D _ (hC.below b0) (hD.below b0) hn hm).mono ?_
    rintro r w1 ⟨rfl, b1⟩
    have B1 := b0.trans (b1.mono b0.size)
    rw [h1]
    go_wp2
    go_ret
    exact ⟨ret_bool (by simp [allKeepB, h1]), B1⟩
  have H1 : Hid _ := h1
  clear h1
  by_cases h2 : (L : Int) = m
  · have h2' : ((L : Int) != (m : Int)) = false := by simp [h2]
    have H2 : Hid ((L : Int) = m) := h2
    clear h2
    go_enter Try.func30, Try.ntmps30
    go_wp2_with fail
    refine (strt_any _ _ _ _ _ _ C D _ (hC.below b0) (hD.below b0) hn hm).mono ?_
    rintro r w1 ⟨rfl, b1⟩
    have B1 := b0.trans (b1.mono b0.size)
    have q1 := q0.below b1
    obtain ⟨c0, c1⟩ := q1.two
    rw [H1.out]
    clear b1 b0 q0
    go_wp2_with fail
    go_loopw [7] (fun i wr => ∃ k : Nat, k ≤ L ∧ i = .int .i64 k ∧ Below w.heap.size w wr ∧ Cel wr w.heap.size [.slice a n cap, .slice c m cap'] 45 ∧ keepAll n m C D ss ls k = true) (fun i _ => L - (intOf i).toNat)
    case atStart => exact ⟨0, Nat.zero_le _, rfl, B1, q1, rfl⟩
    case round =>
      clear c0 c1 B1 q1
      obtain ⟨j, hj, rfl, hb, q1, hall⟩ := hrel
      have HA : Hid _ := hall
      clear hall
      by_cases hlt : j < L
      · obtain ⟨b2, off2, rfl, hc, hr⟩ := (hE.below hb) j (by rw [HL.out]; exact hlt)
        have HK : Hid (keepAll n m C D ss ls (j + 1) = (keepAll n m C D ss ls j && keepB n m C D ss (j : Int) (ls[j]?.getD noI).n (ls[j]?.getD noI).x)) := rfl
        have HF : Hid _ := keepAll_false (n := n) (m := m) (C := C) (D := D) (ss := ss) (ls := ls) (k := j)
        generalize HG : ls[j]?.getD noI = p at *
        clear HG hE
        obtain ⟨ga, gn, gcap, gx⟩ := p
        have hc' : wr.cell? ⟨b2, off2 + j, none⟩ = some (.slice ga gn gcap) := hc
        have hr1 : Ints wr ga gn gx := hr.1
        have hr2 : gn ≤ 1048576 := hr.2
        have HK' : Hid (keepAll n m C D ss ls (j + 1) = (keepAll n m C D ss ls j && keepB n m C D ss (j : Int) gn gx)) := HK
        have HF' : Hid (keepB n m C D ss (j : Int) gn gx = false → ∀ N, j < N → keepAll n m C D ss ls N = false) := HF
        obtain ⟨c0, c1⟩ := q1.two
        have hC1 := hC.below hb
        have hD1 := hD.below hb
        have hF1 := hF.below hb
        clear hc hr HK HF hC hD hF
        have hlt' : (j : Int) < (L : Int) := by omega
        go_wp2_with fail
        go_region_with (first | (go_at_call 25; refine (skeep_any _ _ _ _ _ _ _ _ _ _ _ _ _ C D gx ss _ (by exact hC1.below (Below.refl _ _).drew) (by exact hD1.below (Below.refl _ _).drew) (by exact hr1.below (Below.refl _ _).drew) HN.out (by exact hF1.below (Below.refl _ _).drew) hn hm hr2 hN1).mono ?_; rintro ee w3 ⟨rfl, b3⟩; have b3' := below_of_drew b3))
        all_goals
          have q3 := q1.below b3'
          have hb2 := hb.trans (b3'.mono hb.size)
          cases he : keepB n m C D ss (j : Int) gn gx
          · go_wp2
            go_ret
            exact ⟨ret_bool (by rw [allKeepB, HF'.out he L hlt]; simp), hb2⟩
          · go_wp2
            go_roundw
            case rel => exact ⟨j + 1, by omega, by go_num, hb2, q3, by rw [HK'.out, HA.out, he]; rfl⟩
            case measure => simp [intOf]; omega
      · obtain rfl : j = L := by omega
        go_wp2
        go_ret
        exact ⟨ret_bool (by rw [allKeepB, H1.out, decide_eq_true H2.out, HA.out]; rfl), hb⟩
  · have h2' : ((L : Int) != (m : Int)) = true := by simp [h2]
    have H2 : Hid (¬ (L : Int) = m) := h2
    clear h2
    go_enter Try.func30, Try.ntmps30
    go_wp2_with fail
    refine (strt_any _ _ _ _ _ _ C D _ (hC.below b0) (hD.below b0) hn hm).mono ?_
    rintro r w1 ⟨rfl, b1⟩
    have B1 := b0.trans (b1.mono b0.size)
    have q1 := q0.below b1
    obtain ⟨c0, c1⟩ := q1.two
    rw [H1.out]
    go_wp2
    go_ret
    exact ⟨ret_bool (by rw [allKeepB, decide_eq_false H2.out]; simp), B1⟩

set_option maxHeartbeats 3200000 in
theorem iall_any (a : Option Addr) (n cap : Nat) (c : Option Addr) (m cap' : Nat) (ad : Option Addr) (N pc : Nat) (e : Option Addr) (L ec : Nat) (C D : List Int) (ss ls : List IV) (w : World)
    (hC : Ints w a n C) (hD : Ints w c m D) (hN : ss.length = N) (hF : ISG w ad ss) (hL : ls.length = L) (hE : ISG w e ls) (hn : n ≤ 1048576) (hm : m ≤ 1048576) (hN1 : N ≤ 1048576) (hL1 : L ≤ 1048576) :
    Calls Try.prog 29 #[treV a n cap c m cap', .slice ad N pc, .slice e L ec] w fun r w' => r = .returned (.bool (allKeepB n m C D ss ls L)) ∧ Below w.heap.size w w' := by
  have HN : Hid (ss.length = N) := hN
  have HL : Hid (ls.length = L) := hL
  clear hN hL
  have b0 := (Below.refl w.heap.size w).alloc (Nat.le_refl _) (.cells #[.slice a n cap, .slice c m cap'] 45)
  have q0 := Cel.new w [.slice a n cap, .slice c m cap'] 45
  cases h1 : trtB n m C D
  · go_enter Try.func29, Try.ntmps29
    go_wp2_with fail
    refine (itrt_any _ _ _ _ _ _ C D _ (hC.below b0) (hD.below b0) hn hm).mono ?_
    rintro r w1 ⟨rfl, b1⟩
    have B1 := b0.trans (b1.mono b0.size)
    rw [h1]
    go_wp2
    go_ret
    exact ⟨ret_bool (by simp [allKeepB, h1]), B1⟩
  have H1 : Hid _ := h1
  clear h1
  by_cases h2 : (L : Int) = m
  · have h2' : ((L : Int) != (m : Int)) = false := by simp [h2]
    have H2 : Hid ((L : Int) = m) := h2
    clear h2
    go_enter Try.func29, Try.ntmps29
    go_wp2_with fail
    refine (itrt_any _ _ _ _ _ _ C D _ (hC.below b0) (hD.below b0) hn hm).mono ?_
    rintro r w1 ⟨rfl, b1⟩
    have B1 := b0.trans (b1.mono b0.size)
    have q1 := q0.below b1
    obtain ⟨c0, c1⟩ := q1.two
    rw [H1.out]
    clear b1 b0 q0
    go_wp2_with fail
    go_loopw [7, 8, 22] (fun _ _ i wr => ∃ k : Nat, k ≤ L ∧ i = .int .i64 k ∧ Below w.heap.size w wr ∧ Cel wr w.heap.size [.slice a n cap, .slice c m cap'] 45 ∧ keepAll n m C D ss ls k = true) (fun _ _ i _ => L - (intOf i).toNat)
    case atStart => exact ⟨0, Nat.zero_le _, rfl, B1, q1, rfl⟩
    case round =>
      clear c0 c1 B1 q1
      obtain ⟨j, hj, rfl, hb, q1, hall⟩ := hrel
      have HA : Hid _ := hall
      clear hall
      by_cases hlt : j < L
      · obtain ⟨b2, off2, rfl, hc, hr⟩ := (hE.below hb) j (by rw [HL.out]; exact hlt)
        have HK : Hid (keepAll n m C D ss ls (j + 1) = (keepAll n m C D ss ls j && keepB n m C D ss (j : Int) (ls[j]?.getD noI).n (ls[j]?.getD noI).x)) := rfl
        have HF : Hid _ := keepAll_false (n := n) (m := m) (C := C) (D := D) (ss := ss) (ls := ls) (k := j)
        generalize HG : ls[j]?.getD noI = p at *
        clear HG hE
        obtain ⟨ga, gn, gcap, gx⟩ := p
        have hc' : wr.cell? ⟨b2, off2 + j, none⟩ = some (.slice ga gn gcap) := hc
        have hr1 : Ints wr ga gn gx := hr.1
        have hr2 : gn ≤ 1048576 := hr.2
        have HK' : Hid (keepAll n m C D ss ls (j + 1) = (keepAll n m C D ss ls j && keepB n m C D ss (j : Int) gn gx)) := HK
        have HF' : Hid (keepB n m C D ss (j : Int) gn gx = false → ∀ N, j < N → keepAll n m C D ss ls N = false) := HF
        obtain ⟨c0, c1⟩ := q1.two
        have hC1 := hC.below hb
        have hD1 := hD.below hb
        have hF1 := hF.below hb
        clear hc hr HK HF hC hD hF
        have hlt' : (j : Int) < (L : Int) := by omega
        go_wp2_with fail
        refine (ikeep_any _ _ _ _ _ _ _ _ _ _ _ _ _ C D gx ss _ hC1 hD1 hr1 HN.out hF1 hn hm hr2 hN1).mono ?_
        rintro ee w3 ⟨rfl, b3⟩
        have q3 := q1.below b3
        have hb2 := hb.trans (b3.mono hb.size)
        cases he : keepB n m C D ss (j : Int) gn gx
        · go_wp2
          go_ret
          exact ⟨ret_bool (by rw [allKeepB, HF'.out he L hlt]; simp), hb2⟩
        · go_wp2
          go_roundw
          case rel => exact ⟨j + 1, by omega, by go_num, hb2, q3, by rw [HK'.out, HA.out, he]; rfl⟩
          case measure => simp [intOf]; omega
      · obtain rfl : j = L := by omega
        go_wp2
        go_ret
        exact ⟨ret_bool (by rw [allKeepB, H1.out, decide_eq_true H2.out, HA.out]; rfl), hb⟩
  · have h2' : ((L : Int) != (m : Int)) = true := by simp [h2]
    have H2 : Hid (¬ (L : Int) = m) := h2
    clear h2
    go_enter Try.func29, Try.ntmps29
    go_wp2_with fail
    refine (itrt_any _ _ _ _ _ _ C D _ (hC.below b0) (hD.below b0) hn hm).mono ?_
    rintro r w1 ⟨rfl, b1⟩
    have B1 := b0.trans (b1.mono b0.size)
    have q1 := q0.below b1
    obtain ⟨c0, c1⟩ := q1.two
    rw [H1.out]
    go_wp2
    go_ret
    exact ⟨ret_bool (by rw [allKeepB, decide_eq_false H2.out]; simp), B1⟩

end Go.Proofs.Ytpnldfembbfgdaa
namespace Go.Proofs.Ytpnldfembbfgdaa
open Go.RowKit Go.Deep
set_option linter.unusedVariables false
set_option maxRecDepth 100000

/-- What pots have with what the first k sites have added. -/
def sumT (B : List Int) (es : List IV) : Nat → List Int
  | 0 => B
  | k + 1 => List.zipWith (· + ·) (sumT B es k) (es[k]?.getD noI).x
theorem zip_len {xs ys : List Int} (h1 : xs.length = 3) (h2 : ys.length = 3) : (List.zipWith (· + ·) xs ys).length = 3 := by rw [List.length_zipWith]; omega
theorem sumT_len {B : List Int} {es : List IV} (hB : B.length = 3) : ∀ k, (∀ i, i < k → (es[i]?.getD noI).x.length = 3) → (sumT B es k).length = 3
  | 0, _ => hB
  | k + 1, h => zip_len (sumT_len hB k (fun i hi => h i (by omega))) (h k (by omega))
theorem dot_zip {xs ys FC : List Int} (h1 : xs.length = 3) (h2 : ys.length = 3) : dot FC (List.zipWith (· + ·) xs ys) 3 = dot FC xs 3 + dot FC ys 3 := by
  match xs, h1, ys, h2 with
  | [a, b, c], _, [d, e, f], _ =>
    simp only [dot, List.zipWith_cons_cons, List.zipWith_nil_right, List.getElem?_cons_zero, List.getElem?_cons_succ, Option.getD_some, Int.mul_add]
    omega
/-- What the others' lists come to, and the site's own. -/
def dO (FC : List Int) (es : List IV) (s : Int) : Nat → Int
  | 0 => 0
  | k + 1 => if (k : Int) = s then dO FC es s k else dO FC es s k + dot FC (es[k]?.getD noI).x 3
theorem dot_sumT {B FC : List Int} {es : List IV} {s : Nat} {E : List Int} (hB : B.length = 3) (hs : (es[s]?.getD noI).x = E) : ∀ k, (∀ i, i < k → (es[i]?.getD noI).x.length = 3) → dot FC (sumT B es k) 3 = dot FC B 3 + dO FC es (s : Int) k + (if s < k then dot FC E 3 else 0)
  | 0, _ => by simp [sumT, dO]
  | k + 1, h => by
    have ih := dot_sumT (FC := FC) hB hs k (fun i hi => h i (by omega))
    rw [sumT, dot_zip (sumT_len hB k (fun i hi => h i (by omega))) (h k (by omega)), ih, dO]
    by_cases hk : k = s
    · subst hk
      have e1 : ¬ k < k := by omega
      have e2 : k < k + 1 := by omega
      rw [hs]
      simp only [e1, e2, if_true, if_false]
      omega
    · have e3 : ¬ (k : Int) = (s : Int) := by omega
      by_cases hl : s < k
      · have e4 : s < k + 1 := by omega
        simp only [e3, hl, e4, if_true, if_false]
        omega
      · have e4 : ¬ s < k + 1 := by omega
        simp only [e3, hl, e4, if_false]
        omega
theorem dO_bnd {FC G : List Int} {es : List IV} {s : Int} (hG : ∀ i : Nat, i < G.length → 0 ≤ G[i]?.getD 0 ∧ G[i]?.getD 0 ≤ 50) : ∀ k, k ≤ G.length → k ≤ 3 → (∀ i, i < k → -(G[i]?.getD 0) ≤ dot FC (es[i]?.getD noI).x 3 ∧ dot FC (es[i]?.getD noI).x 3 ≤ G[i]?.getD 0) → -(others G s k) ≤ dO FC es s k ∧ dO FC es s k ≤ others G s k
  | 0, _, _, _ => by simp [dO, others]
  | k + 1, hk, h3, h => by
    have ih := dO_bnd (s := s) hG k (by omega) (by omega) (fun i hi => h i (by omega))
    have ob := others_bnd (s := s) hG k (by omega) (by omega)
    have d := hG k (by omega)
    have hh := h k (by omega)
    rw [dO, others]
    split
    · exact ih
    · rw [IntWalk.wrap64_in _ ⟨by omega, by omega⟩]
      omega
theorem dO_zero {FC : List Int} {es : List IV} {s : Int} (h : ∀ y : List Int, dot FC y 3 = 0) : ∀ k, dO FC es s k = 0
  | 0 => rfl
  | k + 1 => by rw [dO, dO_zero h k, h]; split <;> rfl
theorem hasT_mem {part : List Int} : ∀ (xs : List (List Int)) (k : Nat), ¬ hasFrom part k xs < 0 → part ∈ xs
  | [], k, h => by simp [hasFrom] at h
  | x :: xs, k, h => by
    rw [hasFrom] at h
    by_cases e : eqB x part = true
    · have : x = part := by simpa [eqB] using e
      rw [this]; simp
    · rw [if_neg e] at h
      exact List.mem_cons_of_mem _ (hasT_mem xs (k + 1) h)
theorem part_dot {FC y : List Int} (hl : FC.length = 3) (b : bnd 10000000 FC) : dot (partL FC) y 3 = dot FC y 3 ∨ dot (partL FC) y 3 = -dot FC y 3 := by
  match FC, hl with
  | [x0, x1, x2], _ =>
    have b0 := b 0
    have b1 := b 1
    have b2 := b 2
    simp only [List.getElem?_cons_zero, List.getElem?_cons_succ, Option.getD_some] at b0 b1 b2
    have hs : sg [x0, x1, x2] = 1 ∨ sg [x0, x1, x2] = -1 := by unfold sg; split <;> simp
    have e : partL [x0, x1, x2] = [wrap64 (sg [x0, x1, x2] * x0), wrap64 (sg [x0, x1, x2] * x1), wrap64 (sg [x0, x1, x2] * x2)] := rfl
    rw [e]
    generalize sg [x0, x1, x2] = g at *
    rcases hs with rfl | rfl
    · left
      rw [IntWalk.wrap64_in _ ⟨by omega, by omega⟩, IntWalk.wrap64_in _ ⟨by omega, by omega⟩, IntWalk.wrap64_in _ ⟨by omega, by omega⟩]
      simp only [Int.one_mul]
    · right
      rw [IntWalk.wrap64_in _ ⟨by omega, by omega⟩, IntWalk.wrap64_in _ ⟨by omega, by omega⟩, IntWalk.wrap64_in _ ⟨by omega, by omega⟩]
      simp only [dot, List.getElem?_cons_zero, List.getElem?_cons_succ, Option.getD_some, Int.neg_mul, Int.one_mul]
      omega
theorem zero_dot {FC : List Int} (h : allB 0 FC = true) (y : List Int) : ∀ k, dot FC y k = 0
  | 0 => rfl
  | k + 1 => by
    have e : FC[k]?.getD 0 = 0 := by
      by_cases hk : k < FC.length
      · rw [List.getElem?_eq_getElem hk]
        unfold allB at h
        rw [List.all_eq_true] at h
        have := inB_iff.1 (h _ (List.getElem_mem hk))
        simp only [Option.getD_some]
        omega
      · rw [List.getElem?_eq_none (by omega)]; rfl
    simp only [dot, zero_dot h y k, e]
    omega
theorem keepAll_at {n m : Nat} {C D : List Int} {ss ls : List IV} : ∀ {L : Nat}, keepAll n m C D ss ls L = true → ∀ i, i < L → keepB n m C D ss (i : Int) (ls[i]?.getD noI).n (ls[i]?.getD noI).x = true
  | 0, _, i, hi => by omega
  | L + 1, h, i, hi => by
    rw [keepAll, Bool.and_eq_true] at h
    by_cases e : i = L
    · subst e; exact h.2
    · exact keepAll_at h.1 i (by omega)
/-- What one site knows is so for all. -/
theorem bounds_all {n m : Nat} {C D : List Int} {ss es : List IV} {s : Nat} {k : Nat} {E : List Int} {fn fm : Nat} {FC FD : List Int} {FK : Int} {l : Nat} {U : List Int} {lo hi : Int}
    (hC : C.length = n) (hD : D.length = m) (hE : E.length = k) (hF : FC.length = fn) (hes : es.length = m) (he : ∀ i, i < m → (es[i]?.getD noI).x.length = 3) (hs : s < m) (hsE : (es[s]?.getD noI).x = E)
    (h : bansB n m C D ss (s : Int) k E fn fm FC FD FK l U = (lo, hi, true)) : lo ≤ hi ∧ (allKeepB n m C D ss es m = true → lo ≤ atV FC FD FK (sumT C es m) U ∧ atV FC FD FK (sumT C es m) U ≤ hi) := by
  unfold bansB at h
  split at h
  · rename_i hb
    unfold bokB at hb
    simp only [Bool.and_eq_true] at hb
    obtain ⟨hv, hf, hu⟩ := hb
    obtain ⟨n3, _, m1, m3, _, _, _, k3, _, hg⟩ := viewB_elim hv
    obtain ⟨f3, _, bF, _, _, _⟩ := formB_elim hf
    have hC3 : C.length = 3 := by omega
    have hE3 : E.length = 3 := by omega
    have hd := dot_sumT (FC := FC) hC3 hsE m he
    rw [if_pos hs] at hd
    have hz := dot_zip (FC := FC) hC3 hE3
    have ob := others_bnd (s := (s : Int)) hg m (by omega) m3
    have key : atV FC FD FK (sumT C es m) U = atV FC FD FK (List.zipWith (· + ·) C E) U + dO FC es (s : Int) m := by
      unfold atV
      rw [hd, hz]
      omega
    unfold bnds at h
    split at h
    · rename_i h0
      simp only [Prod.mk.injEq] at h
      rw [zero_part (by omega) bF] at h0
      have := dO_zero (es := es) (s := (s : Int)) (zero_dot h0 · 3) m
      exact ⟨by omega, fun _ => by rw [key]; omega⟩
    · split at h
      · simp at h
      · rename_i hh
        simp only [Prod.mk.injEq] at h
        refine ⟨by omega, fun hk => ?_⟩
        have hm := hasT_mem _ _ hh
        obtain ⟨p, hp, hpx⟩ := List.mem_map.1 hm
        unfold allKeepB at hk
        simp only [Bool.and_eq_true] at hk
        have hall := hk.2.2
        have hb2 := dO_bnd (FC := FC) (es := es) (s := (s : Int)) hg m (by omega) m3 (fun i hi => by
          have hi2 := keepAll_at hall i hi
          unfold keepB at hi2
          simp only [Bool.and_eq_true] at hi2
          have h3 := hi2.2
          unfold keepsB at h3
          rw [List.all_eq_true] at h3
          have h4 := inB_iff.1 (h3 p hp)
          rw [hpx] at h4
          simp only [Int.toNat_natCast] at h4
          rcases part_dot (y := (es[i]?.getD noI).x) (show FC.length = 3 by omega) bF with e | e <;> omega)
        rw [key]
        omega
  · simp at h

end Go.Proofs.Ytpnldfembbfgdaa
namespace Go.Proofs.Ytpnldfembbfgdaa
open Go.RowKit
set_option linter.unusedVariables false
set_option maxRecDepth 100000

theorem Touch.ofB {B : Nat} {w w' : World} (h : Below B w w') (hs : w.heap.size ≤ w'.heap.size) : Touch (fun x => B ≤ x) w w' := ⟨h.os, h.tape, h.output, hs, fun k hk hn => h.block k (by omega)⟩

set_option maxHeartbeats 1600000 in
theorem wp_copyI {o : Oper} {a : Act} {K : Act → World → Prop} {Q : Exit → Act → World → Prop} {W : World} (s x : Operand) (ho : o.op = .call { callee := .builtin .append, args := #[s, x], argTypes := #[26, 26] }) (base L B n cap : Nat) (zs : List Int)
    (hs : a.eval s = .slice (some ⟨L, 0, none⟩) 0 0) (hown : W.ownsRow base 3 1 (.slice (some ⟨L, 0, none⟩) 0 0) 0 []) (hx : a.eval x = .slice (some ⟨B, 0, none⟩) n cap) (hb : Blk W B zs) (hl : zs.length = n) (hn : n ≤ 1048576) (hbase : base ≤ W.heap.size) (hL : base ≤ L)
    (h : ∀ a' cap' B' W1, Below base W W1 → Touch (fun z => z = L) W W1 → OwnX W1 a' B' n zs → (0 < n → base ≤ B' ∧ (B' = L ∨ W.heap.size ≤ B')) → K (a.put o.dst (.slice a' n cap')) W1) : o.wp Try.prog a W K Q := by
  by_cases h0 : 0 < n
  · obtain ⟨i0, hi, hz0, hz1, hz2⟩ := info_parts Try.infoInt
    have hcl : ∀ i, i < n → W.cell? ⟨B, 0 + i, none⟩ = some (.int .i64 (zs.getD i 0)) := fun i hi => by rw [Nat.zero_add]; exact hb.cell i (by omega)
    refine wp_append_lies _ s x 26 ho base 3 i0 (.int .i64 0) 1 8 Try.underlying26 hi hz0 hz1 hz2 rfl (by omega) _ 0 [] hs hown ⟨B, 0, none⟩ n cap (zs.map (Value.int .i64)) hx (by rw [List.length_map, hl, Nat.mul_one]) (newsI hcl hl) (oneI _) h0 (by unfold maxLen; omega) (by omega) hbase _ rfl ?_
    intro g cp W1 ho1 hg hat hlt
    have hB : Below base W W1 := (Below.refl base W).grown hg hbase (fun z hz => by simp only [Value.ownBlock, Option.some.injEq] at hz; omega)
    simp only [Nat.zero_add]
    have hgb : base ≤ g ∧ (g = L ∨ W.heap.size ≤ g) := by
      rcases hat with e | e
      · simp only [Value.ownBlock, Option.some.injEq] at e; omega
      · omega
    refine h _ _ g W1 hB ⟨hB.os, hB.tape, hB.output, hB.size, fun C hC hne => ?_⟩ ?_ (fun _ => hgb)
    · rw [hg.block C hC (by simp only [Value.ownBlock]; intro e; simp only [Option.some.injEq] at e; exact hne e)]
    · rcases ho1.2 with ⟨hv, _⟩ | ⟨g', cap', cur, hv, hg', hh, hl', _, hs', ht⟩
      · simp at hv
      · simp only [Value.slice.injEq, Option.some.injEq, Addr.mk.injEq, and_true, true_and] at hv
        obtain ⟨rfl, rfl⟩ := hv
        refine ⟨hl, .inr ⟨rfl, cur.toList, by unfold Cel; simpa using hh, fun i hi => ?_⟩⟩
        have h1 : (cur.toList.take ((0 + n) * 1))[i]? = (zs.map (Value.int .i64))[i]? := by rw [ht]; rfl
        rw [List.getElem?_take, if_pos (by omega)] at h1
        rw [h1]
        have hi2 : i < zs.length := by omega
        simp [hi2]
  · obtain rfl : n = 0 := by omega
    have hzs : zs = [] := List.eq_nil_of_length_eq_zero hl
    subst hzs
    obtain ⟨dst, op, ty, pos, after, guard⟩ := o
    dsimp only at ho
    subst ho
    unfold Oper.wp execOp
    simp only [resolve, invoke, builtin, Sem.run_bind, Sem.run_pure, Result.andThen_ok, List.map_toArray, List.map_cons, List.map_nil, hs, hx]
    go_simp
    exact h _ _ 0 W (Below.refl _ _) (Touch.refl _ _) (OwnX.nil _ _ _) (fun h => absurd h (Nat.lt_irrefl _))

end Go.Proofs.Ytpnldfembbfgdaa
namespace Go.Proofs.Ytpnldfembbfgdaa
open Go.RowKit Go.Deep
set_option linter.unusedVariables false
set_option maxRecDepth 100000

set_option maxHeartbeats 1600000 in
theorem wp_copyG {o : Oper} {a : Act} {K : Act → World → Prop} {Q : Exit → Act → World → Prop} {W : World} (s x : Operand) (ho : o.op = .call { callee := .builtin .append, args := #[s, x], argTypes := #[26, 26] }) (base L : Nat) (ad : Option Addr) (n cap : Nat) (zs : List Int)
    (hs : a.eval s = .slice (some ⟨L, 0, none⟩) 0 0) (hown : W.ownsRow base 3 1 (.slice (some ⟨L, 0, none⟩) 0 0) 0 []) (hx : a.eval x = .slice ad n cap) (hb : Ints W ad n zs) (h0 : 0 < n) (hn : n ≤ 1048576) (hbase : base ≤ W.heap.size) (hL : base ≤ L)
    (h : ∀ cap' B' W1, Below base W W1 → Touch (fun z => z = L) W W1 → OwnX W1 (some ⟨B', 0, none⟩) B' n zs → (base ≤ B' ∧ (B' = L ∨ W.heap.size ≤ B')) → K (a.put o.dst (.slice (some ⟨B', 0, none⟩) n cap')) W1) : o.wp Try.prog a W K Q := by
  obtain ⟨i0, hi, hz0, hz1, hz2⟩ := info_parts Try.infoInt
  obtain ⟨B, off, rfl, hcell⟩ := hb.pos h0
  have hl := hb.1
  have hcl : ∀ i, i < n → W.cell? ⟨B, off + i, none⟩ = some (.int .i64 (zs.getD i 0)) := fun i hi => by rw [hcell i hi]
  refine wp_append_lies _ s x 26 ho base 3 i0 (.int .i64 0) 1 8 Try.underlying26 hi hz0 hz1 hz2 rfl (by omega) _ 0 [] hs hown ⟨B, off, none⟩ n cap (zs.map (Value.int .i64)) hx (by rw [List.length_map, hl, Nat.mul_one]) (newsI hcl hl) (oneI _) h0 (by unfold maxLen; omega) (by omega) hbase _ rfl ?_
  intro g cp W1 ho1 hg hat hlt
  have hB : Below base W W1 := (Below.refl base W).grown hg hbase (fun z hz => by simp only [Value.ownBlock, Option.some.injEq] at hz; omega)
  simp only [Nat.zero_add]
  have hgb : base ≤ g ∧ (g = L ∨ W.heap.size ≤ g) := by
    rcases hat with e | e
    · simp only [Value.ownBlock, Option.some.injEq] at e; omega
    · omega
  refine h _ g W1 hB ⟨hB.os, hB.tape, hB.output, hB.size, fun C hC hne => ?_⟩ ?_ hgb
  · rw [hg.block C hC (by simp only [Value.ownBlock]; intro e; simp only [Option.some.injEq] at e; exact hne e)]
  · rcases ho1.2 with ⟨hv, _⟩ | ⟨g', cap', cur, hv, hg', hh, hl', _, hs', ht⟩
    · simp at hv
    · simp only [Value.slice.injEq, Option.some.injEq, Addr.mk.injEq, and_true, true_and] at hv
      obtain ⟨rfl, rfl⟩ := hv
      refine ⟨hl, .inr ⟨rfl, cur.toList, by unfold Cel; simpa using hh, fun i hi => ?_⟩⟩
      have h1 : (cur.toList.take ((0 + n) * 1))[i]? = (zs.map (Value.int .i64))[i]? := by rw [ht]; rfl
      rw [List.getElem?_take, if_pos (by omega)] at h1
      rw [h1]
      have hi2 : i < zs.length := by omega
      simp [hi2]
theorem ownx_cell {W : World} {B n i : Nat} {zs : List Int} (h : OwnX W (some ⟨B, 0, none⟩) B n zs) (hi : i < n) : W.cell? ⟨B, i, none⟩ = some (.int .i64 (zs[i]?.getD 0)) ∧ W.frozen? ⟨B, i, none⟩ = false := by
  rcases h.2 with h0 | ⟨_, cur, hc, hv⟩
  · omega
  · exact ⟨(hc.cell i).trans (hv i hi), hc.free i⟩
theorem ownx_put {W : World} {B n i : Nat} {zs : List Int} (h : OwnX W (some ⟨B, 0, none⟩) B n zs) (hi : i < n) (y : Int) : Ints (W.setCell ⟨B, i, none⟩ (.int .i64 y)) (some ⟨B, 0, none⟩) n (zs.set i y) := ints_set h.ints hi y
theorem ownx_own {W : World} {B n i : Nat} {zs : List Int} (h : OwnX W (some ⟨B, 0, none⟩) B n zs) (hi : i < n) (y : Int) : OwnX (W.setCell ⟨B, i, none⟩ (.int .i64 y)) (some ⟨B, 0, none⟩) B n (zs.set i y) := by
  have hl := h.1
  rcases h.2 with h0 | ⟨_, cur, hc, hv⟩
  · omega
  · refine ⟨by rw [List.length_set]; exact hl, .inr ⟨rfl, _, hc.set i (.int .i64 y), fun k hk => ?_⟩⟩
    by_cases e : k = i
    · subst e
      have hk2 : k < cur.length := (List.getElem?_eq_some_iff.1 (hv k hk)).1
      rw [List.getElem?_set_self hk2, List.getElem?_set_self (by omega)]
      rfl
    · rw [List.getElem?_set_ne (fun x => e x.symm), List.getElem?_set_ne (fun x => e x.symm)]
      exact hv k hk
theorem sumT_bnd {B : List Int} {es : List IV} (hB : B.length = 3) (bB : bnd 10000 B) : ∀ k : Nat, (∀ i : Nat, i < k → (es[i]?.getD noI).x.length = 3 ∧ bnd 20000 (es[i]?.getD noI).x) → bnd (10000 + 20000 * (k : Int)) (sumT B es k)
  | 0, _ => fun i => by have := bB i; simp only [sumT]; omega
  | k + 1, h => fun i => by
    have ih := sumT_bnd hB bB k (fun i hi => h i (by omega)) i
    have hl := sumT_len hB k (fun i hi => (h i (by omega)).1)
    have hk := h k (by omega)
    have hx := hk.2 i
    simp only [sumT]
    by_cases hi : i < 3
    · have e : (List.zipWith (· + ·) (sumT B es k) (es[k]?.getD noI).x)[i]?.getD 0 = (sumT B es k)[i]?.getD 0 + (es[k]?.getD noI).x[i]?.getD 0 := by
        rw [List.getElem?_zipWith, List.getElem?_eq_getElem (by omega), List.getElem?_eq_getElem (by omega)]
        rfl
      rw [e]
      omega
    · rw [List.getElem?_eq_none (by rw [zip_len hl hk.1]; omega)]
      simp only [Option.getD_none]
      omega
/-- The first v numbers are those with x; the others are not yet. -/
def mixV (P X : List Int) (v : Nat) : List Int := (List.zipWith (· + ·) P X).take v ++ P.drop v
theorem mix_at {P X : List Int} (hP : P.length = 3) (hX : X.length = 3) : ∀ v, v < 3 → (mixV P X v)[v]?.getD 0 = P[v]?.getD 0 ∧ (mixV P X v).set v (P[v]?.getD 0 + X[v]?.getD 0) = mixV P X (v + 1) := fun v hv => by
  match P, hP, X, hX with
  | [a, b, c], _, [d, e, f], _ =>
    match v, hv with
    | 0, _ => exact ⟨rfl, rfl⟩
    | 1, _ => exact ⟨rfl, rfl⟩
    | 2, _ => exact ⟨rfl, rfl⟩
theorem mix_end {P X : List Int} (hP : P.length = 3) (hX : X.length = 3) : mixV P X 3 = List.zipWith (· + ·) P X := by
  match P, hP, X, hX with
  | [a, b, c], _, [d, e, f], _ => rfl

set_option maxHeartbeats 3200000 in
theorem cosum_any (a : Option Addr) (cap : Nat) (B : List Int) (ad : Option Addr) (N c : Nat) (es : List IV) (w : World) (hB : Ints w a 3 B) (hE : ISG w ad es) (hN : es.length = N) (hN3 : N ≤ 3) (h3 : ∀ i, i < N → (es[i]?.getD noI).n = 3) (bB : bnd 10000 B) (bE : ∀ i, i < N → bnd 20000 (es[i]?.getD noI).x) :
    Calls Try.prog 34 #[.slice a 3 cap, .slice ad N c] w fun e w' => ∃ g cg, e = .returned (.slice (some ⟨g, 0, none⟩) 3 cg) ∧ Ints w' (some ⟨g, 0, none⟩) 3 (sumT B es N) ∧ Below w.heap.size w w' := by
  have HN : Hid (es.length = N) := hN
  have H3 : Hid (∀ i, i < N → (es[i]?.getD noI).n = 3) := h3
  have HB : Hid (B.length = 3) := hB.1
  have HX : Hid (∀ i, i < N → (es[i]?.getD noI).x.length = 3 ∧ bnd 20000 (es[i]?.getD noI).x) := fun i hi => ⟨by obtain ⟨_, _, _, _, hI, _⟩ := hE i (by rw [hN]; exact hi); rw [hI.1]; exact h3 i hi, bE i hi⟩
  have HS : Hid (∀ k : Nat, k ≤ N → bnd (10000 + 20000 * (k : Int)) (sumT B es k) ∧ (sumT B es k).length = 3) := fun k hk => ⟨sumT_bnd HB.out bB k (fun i hi => HX.out i (by omega)), sumT_len HB.out k (fun i hi => (HX.out i (by omega)).1)⟩
  clear hN h3 bB bE
  have al := (Below.refl w.heap.size w).alloc (Nat.le_refl _) (.cells #[] 3)
  have o0 := World.ownsRow_lit (base := w.heap.size) (e := 3) (size := 1) w #[] 0 (Nat.le_refl _) (by unfold maxLen; omega) rfl
  have hBa := hB.below al
  go_enter Try.func34, Try.ntmps34
  go_wp2_with (at_builtin; refine wpList_plain rfl (fun K hK => ?_); refine wp_copyG (.tmp 8) (.tmp 9) rfl w.heap.size w.heap.size a 3 cap B (by rfl) o0 (by rfl) hBa (by omega) (by omega) (by rw [World.size_alloc]; omega) (Nat.le_refl _) ?_)
  intro c8 B8 W1 hBn hTn ox hB8 hor
  refine hK _ _ ?_
  clear hK K
  have b1 := al.trans hBn
  skip
  clear hBn hTn al o0 hBa hor hB
  go_wp2_with fail
  go_loopw [6] (fun i wr => ∃ k : Nat, k ≤ N ∧ i = .int .i64 k ∧ OwnX wr (some ⟨B8, 0, none⟩) B8 3 (sumT B es k) ∧ Below w.heap.size w wr) (fun i _ => N - (intOf i).toNat)
  case atStart => exact ⟨0, by omega, rfl, ox, b1⟩
  case round =>
    clear ox b1
    obtain ⟨k, hk, rfl, ox, b1⟩ := hrel
    by_cases hlt : k < N
    · have hlt' : (k : Int) < (N : Int) := by omega
      obtain ⟨b', o', e', hc0, hI0, _⟩ := hE k (by rw [HN.out]; exact hlt)
      subst e'
      have hn3 := H3.out k hlt
      have hx := HX.out k hlt
      have hs := HS.out k (by omega)
      have hsum : sumT B es (k + 1) = List.zipWith (· + ·) (sumT B es k) (es[k]?.getD noI).x := rfl
      rw [hn3] at hI0
      obtain ⟨y, hy⟩ : ∃ y, y = es[k]?.getD noI := ⟨_, rfl⟩
      rw [← hy] at hc0 hI0 hn3 hx hsum
      obtain ⟨Z, hZ⟩ : ∃ Z, Z = sumT B es k := ⟨_, rfl⟩
      rw [← hZ] at hs hsum ox
      have hc1 : w.cell? ⟨b', o' + k, none⟩ = some (.slice y.a y.n y.cap) := hc0
      rw [hn3] at hc1
      have HSUM : Hid (sumT B es (k + 1) = List.zipWith (· + ·) Z y.x) := hsum
      have HZL : Hid (Z.length = 3 ∧ y.x.length = 3) := ⟨hs.2, hx.1⟩
      have HZB : Hid (bnd (10000 + 20000 * (k : Int)) Z ∧ bnd 20000 y.x) := ⟨hs.1, hx.2⟩
      obtain ⟨b5, o5, e5, hcy⟩ := hI0.pos (by omega)
      have HE5 : Hid (y.a = some ⟨b5, o5, none⟩) := e5
      rw [e5] at hc1
      have ox0 : OwnX wr (some ⟨B8, 0, none⟩) B8 3 (mixV Z y.x 0) := ox
      clear hc0 hsum hs hx hy hZ e5 ox
      go_wp2_with fail
      go_loopw [7] (fun i wx => ∃ v : Nat, v ≤ 3 ∧ i = .int .i64 v ∧ OwnX wx (some ⟨B8, 0, none⟩) B8 3 (mixV Z y.x v) ∧ Below w.heap.size w wx) (fun i _ => 3 - (intOf i).toNat)
      case atStart => exact ⟨0, by omega, rfl, ox0, b1⟩
      case round =>
        clear ox0 b1
        obtain ⟨v, hv, rfl, ox, b1⟩ := hrel
        by_cases hlv : v < 3
        · have hlv' : (v : Int) < 3 := by omega
          obtain ⟨m1, m2⟩ := mix_at HZL.out.1 HZL.out.2 v hlv
          have z1 := HZB.out.1 v
          have z2 := HZB.out.2 v
          have d0 := (ownx_cell ox hlv).1
          have f0 := (ownx_cell ox hlv).2
          rw [m1] at d0
          have d2 : w.cell? ⟨b5, o5 + v, none⟩ = some (.int .i64 (y.x[v]?.getD 0)) := hcy v hlv
          have ox2 := ownx_own ox hlv (Z[v]?.getD 0 + y.x[v]?.getD 0)
          rw [m2] at ox2
          have lq := ox.lt (by omega)
          obtain ⟨p, hp⟩ : ∃ p, p = Z[v]?.getD 0 := ⟨_, rfl⟩
          obtain ⟨t, ht⟩ : ∃ t, t = y.x[v]?.getD 0 := ⟨_, rfl⟩
          rw [← hp] at d0 z1 ox2
          rw [← ht] at d2 z2 ox2
          have hw : IntKind.i64.wrap (p + t) = p + t := wrap_id (by omega) (by omega)
          clear hp ht m1 m2
          have e1 : wr.cell? ⟨b', o' + k, none⟩ = some (.slice (some ⟨b5, o5, none⟩) 3 y.cap) := by rw [b1.cell (p := ⟨b', o' + k, none⟩) (block_lt hc1)]; exact hc1
          have e2 : wr.cell? ⟨b5, o5 + v, none⟩ = some (.int .i64 t) := by rw [b1.cell (p := ⟨b5, o5 + v, none⟩) (block_lt d2)]; exact d2
          go_upto_region 8 with fail
          refine wp_region_ends (fun X => X.cell? ⟨b', o' + k, none⟩ = some (.slice (some ⟨b5, o5, none⟩) 3 y.cap) ∧ X.cell? ⟨b5, o5 + v, none⟩ = some (.int .i64 t)) (fun X => X.cell? ⟨B8, v, none⟩ = some (.int .i64 p)) 15 (by kernel_rfl) ?_
          have dr : Below wr.heap.size wr wr.drew := (Below.refl _ _).drew
          have hSS : (fun X : World => X.cell? ⟨b', o' + k, none⟩ = some (.slice (some ⟨b5, o5, none⟩) 3 y.cap) ∧ X.cell? ⟨b5, o5 + v, none⟩ = some (.int .i64 t)) wr.drew ∧ (fun X : World => X.cell? ⟨B8, v, none⟩ = some (.int .i64 p)) wr.drew := ⟨⟨e1, e2⟩, d0⟩
          have b2 := b1.trans (dr.mono b1.size)
          have ox3 : OwnX (wr.drew.setCell ⟨B8, v, none⟩ (.int .i64 (p + t))) (some ⟨B8, 0, none⟩) B8 3 (mixV Z y.x (v + 1)) := ox2
          have f1 : wr.drew.frozen? ⟨B8, v, none⟩ = false := f0
          have d1 : wr.drew.cell? ⟨B8, v, none⟩ = some (.int .i64 p) := d0
          have l1 : B8 < wr.drew.heap.size := lq
          have b3 := b2.setCell (p := ⟨B8, v, none⟩) (by simp only []; omega) (.int .i64 (p + t))
          have g1 : (wr.drew.setCell ⟨B8, v, none⟩ (.int .i64 (p + t))).cell? ⟨b', o' + k, none⟩ = some (.slice (some ⟨b5, o5, none⟩) 3 y.cap) := by rw [b3.cell (p := ⟨b', o' + k, none⟩) (block_lt hc1)]; exact hc1
          have g2 : (wr.drew.setCell ⟨B8, v, none⟩ (.int .i64 (p + t))).cell? ⟨b5, o5 + v, none⟩ = some (.int .i64 t) := by rw [b3.cell (p := ⟨b5, o5 + v, none⟩) (block_lt d2)]; exact d2
          clear dr e1 e2 d0 f0 lq ox2 ox
          obtain ⟨V, hV⟩ : ∃ V, V = wr.drew := ⟨_, rfl⟩
          rw [← hV]
          rw [← hV] at hSS b2 ox3 f1 d1 l1 b3 g1 g2
          clear hV
          refine tkL (i := 0) rfl hSS ?_
          refine tkL (i := 1) rfl hSS ?_
          refine tkL (i := 2) rfl hSS ?_
          simp only [Act.put, List.setIfInBounds_toArray, List.set_cons_succ, List.set_cons_zero, List.getElem_toArray, List.getElem_cons_succ, List.getElem_cons_zero]
          refine tkL (i := 3) rfl hSS ?_
          refine tkL (i := 4) rfl hSS ?_
          refine tkM (i := 5) rfl rfl hSS ?_
          simp only [Act.put, List.setIfInBounds_toArray, List.set_cons_succ, List.set_cons_zero, List.getElem_toArray, List.getElem_cons_succ, List.getElem_cons_zero]
          refine tkL (i := 6) rfl hSS ?_
          refine tkL (i := 7) rfl hSS ?_
          refine tkL (i := 8) rfl hSS ?_
          simp only [Act.put, List.setIfInBounds_toArray, List.set_cons_succ, List.set_cons_zero, List.getElem_toArray, List.getElem_cons_succ, List.getElem_cons_zero]
          refine tkL (i := 9) rfl hSS ?_
          refine tkL (i := 10) rfl hSS ?_
          refine tkL (i := 11) rfl hSS ?_
          simp only [Act.put, List.setIfInBounds_toArray, List.set_cons_succ, List.set_cons_zero, List.getElem_toArray, List.getElem_cons_succ, List.getElem_cons_zero]
          refine tkL (i := 12) rfl hSS ?_
          refine tkL (i := 13) rfl hSS ?_
          refine wpAnyE_one (i := 14) (by kernel_rfl) rfl (fun Kn hK => ?_)
          go_simp
          refine hK.out _ _ ⟨hSS.1, fun _ => hSS.2⟩ ?_
          clear hK hSS
          refine wpAnyE_one (i := 15) (by kernel_rfl) rfl (fun Kn hK => ?_)
          go_simp
          refine hK.out _ _ ⟨⟨g1, g2⟩, fun h => absurd h (by decide)⟩ ?_
          clear hK d1 f1 l1 g1 g2
          refine wpAnyE_done (by kernel_rfl) ?_ _
          go_wp2
          go_roundw
          case rel => exact ⟨v + 1, by omega, by go_num, ox3, b3⟩
          case measure => simp [intOf]; omega
        · obtain rfl : v = 3 := by omega
          have hlv' : ¬ ((3 : Nat) : Int) < 3 := by omega
          have oxe : OwnX wr (some ⟨B8, 0, none⟩) B8 3 (sumT B es (k + 1)) := by rw [HSUM.out, ← mix_end HZL.out.1 HZL.out.2]; exact ox
          clear ox
          go_wp2
          go_roundw
          case rel => exact ⟨k + 1, by omega, by go_num, oxe, b1⟩
          case measure => simp [intOf]; omega
    · obtain rfl : k = N := by omega
      have hlt' : ¬ (k : Int) < (k : Int) := by omega
      have hf := ox.ints
      clear ox
      go_wp2
      go_ret
      first | exact ⟨B8, c8, rfl, hf, b1⟩ | exact ⟨B8, ⟨c8, rfl⟩, hf, b1⟩ | exact ⟨⟨c8, rfl⟩, hf, b1⟩ | exact ⟨B8, rfl, hf, b1⟩ | exact ⟨B8, hf, b1⟩ | exact ⟨hf, b1⟩

end Go.Proofs.Ytpnldfembbfgdaa
namespace Go.Proofs.Ytpnldfembbfgdaa
open Go.RowKit Go.Deep
set_option linter.unusedVariables false

set_option maxRecDepth 100000 in
set_option maxHeartbeats 6400000 in
theorem ibounds_any (a : Option Addr) (n cap : Nat) (c : Option Addr) (m cap' : Nat) (ad : Option Addr) (N pc : Nat) (s : Int) (e : Option Addr) (k ec : Nat) (fa : Option Addr) (fn fcap : Nat) (fc : Option Addr) (fm fcap' : Nat) (FK : Int) (u : Option Addr) (l uc : Nat) (C D E FC FD U : List Int) (ss : List IV) (w : World)
    (hC : Ints w a n C) (hD : Ints w c m D) (hE : Ints w e k E) (hA : Ints w fa fn FC) (hB : Ints w fc fm FD) (hU : Ints w u l U) (hN : ss.length = N) (hF : ISG w ad ss) (hn : n ≤ 1048576) (hm : m ≤ 1048576) (hk : k ≤ 1048576) (hfn : fn ≤ 1048576) (hfm : fm ≤ 1048576) (hl : l ≤ 1048576) (hN1 : N ≤ 1048576) :
    Calls Try.prog 32 #[treV a n cap c m cap', .slice ad N pc, .int .i64 s, .slice e k ec, formV fa fn fcap fc fm fcap' FK, .slice u l uc] w fun r w' => r = .returned (ansV (bansB n m C D ss s k E fn fm FC FD FK l U)) ∧ Below w.heap.size w w' := by
  have HN : Hid (ss.length = N) := hN
  clear hN
  have q_0 := (Cel.new w [.slice a n cap, .slice c m cap'] 45).alloc (.cells #[.slice fa fn fcap, .slice fc fm fcap', .int .i64 FK] 34)
  have f_0 := Cel.new (w.alloc (.cells #[.slice a n cap, .slice c m cap'] 45)) [.slice fa fn fcap, .slice fc fm fcap', .int .i64 FK] 34
  have B_0 := ((Below.refl w.heap.size w).alloc (Nat.le_refl _) (.cells #[.slice a n cap, .slice c m cap'] 45)).alloc (by simp) (.cells #[.slice fa fn fcap, .slice fc fm fcap', .int .i64 FK] 34)
  rw [World.size_alloc] at f_0
  have v_0 := Cel.new ((w.alloc (.cells #[.slice a n cap, .slice c m cap'] 45)).alloc (.cells #[.slice fa fn fcap, .slice fc fm fcap', .int .i64 FK] 34)) [.slice a n cap, .slice c m cap', .slice ad N pc, .int .i64 s, .slice e k ec, .slice u l uc] 81
  have q_1 := q_0.alloc (.cells #[.slice a n cap, .slice c m cap', .slice ad N pc, .int .i64 s, .slice e k ec, .slice u l uc] 81)
  have f_1 := f_0.alloc (.cells #[.slice a n cap, .slice c m cap', .slice ad N pc, .int .i64 s, .slice e k ec, .slice u l uc] 81)
  have B_1 := B_0.alloc B_0.size (.cells #[.slice a n cap, .slice c m cap', .slice ad N pc, .int .i64 s, .slice e k ec, .slice u l uc] 81)
  rw [World.size_alloc, World.size_alloc] at v_0
  clear q_0 f_0 B_0
  cases h0 : viewB n m C D ss s k E
  · go_enter Try.func32, Try.ntmps32
    go_wp2_with fail
    refine (vok_any _ _ _ _ _ _ _ _ _ _ _ _ _ _ _ _ C D E ss _ (hC.below B_1) (hD.below B_1) (hE.below B_1) HN.out (hF.below B_1) hn hm hk hN1).mono ?_
    rintro r w2 ⟨rfl, b_2⟩
    rw [h0]
    have B_2 := B_1.trans (b_2.mono B_1.size)
    have q_2 := q_1.below b_2
    have f_2 := f_1.below b_2
    have v_2 := v_0.below b_2
    clear B_1 f_1 q_1 v_0 b_2
    obtain ⟨c_q0, c_q1⟩ := q_2.two
    obtain ⟨c_f0, c_f1, c_f2⟩ := f_2.three
    obtain ⟨c_v0, c_v1, c_v2, c_v3, c_v4, c_v5⟩ := v_2.sixK
    go_wp2
    refine bodyPost_ret (v := .tuple #[.int .i64 0, .int .i64 0, .bool false]) (by simp [results, Try.results32, go_sem]) rfl ⟨?_, B_2⟩
    rw [bansB, if_neg (by simp [bokB, h0])]
    rfl
  cases h1 : formB fn fm FC FD FK
  · go_enter Try.func32, Try.ntmps32
    go_wp2_with fail
    refine (vok_any _ _ _ _ _ _ _ _ _ _ _ _ _ _ _ _ C D E ss _ (hC.below B_1) (hD.below B_1) (hE.below B_1) HN.out (hF.below B_1) hn hm hk hN1).mono ?_
    rintro r w2 ⟨rfl, b_2⟩
    rw [h0]
    have B_2 := B_1.trans (b_2.mono B_1.size)
    have q_2 := q_1.below b_2
    have f_2 := f_1.below b_2
    have v_2 := v_0.below b_2
    clear B_1 f_1 q_1 v_0 b_2
    obtain ⟨c_q0, c_q1⟩ := q_2.two
    obtain ⟨c_f0, c_f1, c_f2⟩ := f_2.three
    obtain ⟨c_v0, c_v1, c_v2, c_v3, c_v4, c_v5⟩ := v_2.sixK
    go_wp2_with fail
    refine (iok_any _ _ _ _ _ _ _ FC FD _ (hA.below B_2) (hB.below B_2) hfn hfm).mono ?_
    rintro r w3 ⟨rfl, b_3⟩
    rw [h1]
    clear c_q0 c_q1 c_f0 c_f1 c_f2 c_v0 c_v1 c_v2 c_v3 c_v4 c_v5
    have B_3 := B_2.trans (b_3.mono B_2.size)
    have q_3 := q_2.below b_3
    have f_3 := f_2.below b_3
    have v_3 := v_2.below b_3
    clear B_2 f_2 q_2 v_2 b_3
    obtain ⟨c_q0, c_q1⟩ := q_3.two
    obtain ⟨c_f0, c_f1, c_f2⟩ := f_3.three
    obtain ⟨c_v0, c_v1, c_v2, c_v3, c_v4, c_v5⟩ := v_3.sixK
    go_wp2
    refine bodyPost_ret (v := .tuple #[.int .i64 0, .int .i64 0, .bool false]) (by simp [results, Try.results32, go_sem]) rfl ⟨?_, B_3⟩
    rw [bansB, if_neg (by simp [bokB, h1])]
    rfl
  cases h2 : okN 2 9 l U
  · go_enter Try.func32, Try.ntmps32
    go_wp2_with fail
    refine (vok_any _ _ _ _ _ _ _ _ _ _ _ _ _ _ _ _ C D E ss _ (hC.below B_1) (hD.below B_1) (hE.below B_1) HN.out (hF.below B_1) hn hm hk hN1).mono ?_
    rintro r w2 ⟨rfl, b_2⟩
    rw [h0]
    have B_2 := B_1.trans (b_2.mono B_1.size)
    have q_2 := q_1.below b_2
    have f_2 := f_1.below b_2
    have v_2 := v_0.below b_2
    clear B_1 f_1 q_1 v_0 b_2
    obtain ⟨c_q0, c_q1⟩ := q_2.two
    obtain ⟨c_f0, c_f1, c_f2⟩ := f_2.three
    obtain ⟨c_v0, c_v1, c_v2, c_v3, c_v4, c_v5⟩ := v_2.sixK
    go_wp2_with fail
    refine (iok_any _ _ _ _ _ _ _ FC FD _ (hA.below B_2) (hB.below B_2) hfn hfm).mono ?_
    rintro r w3 ⟨rfl, b_3⟩
    rw [h1]
    clear c_q0 c_q1 c_f0 c_f1 c_f2 c_v0 c_v1 c_v2 c_v3 c_v4 c_v5
    have B_3 := B_2.trans (b_3.mono B_2.size)
    have q_3 := q_2.below b_3
    have f_3 := f_2.below b_3
    have v_3 := v_2.below b_3
    clear B_2 f_2 q_2 v_2 b_3
    obtain ⟨c_q0, c_q1⟩ := q_3.two
    obtain ⟨c_f0, c_f1, c_f2⟩ := f_3.three
    obtain ⟨c_v0, c_v1, c_v2, c_v3, c_v4, c_v5⟩ := v_3.sixK
    go_wp2_with fail
    refine (iarg_any _ _ _ U _ (hU.below B_3) hl).mono ?_
    rintro r w4 ⟨rfl, rfl⟩
    rw [h2]
    go_wp2
    refine bodyPost_ret (v := .tuple #[.int .i64 0, .int .i64 0, .bool false]) (by simp [results, Try.results32, go_sem]) rfl ⟨?_, B_3⟩
    rw [bansB, if_neg (by simp [bokB, h2])]
    rfl
  have hbo : bokB n m C D ss s k E fn fm FC FD FK l U = true := by simp [bokB, h0, h1, h2]
  obtain ⟨e1, bC, m1, m2, -, s0, s1, e2, bE, bD⟩ := viewB_elim h0
  obtain ⟨e3, e4, bA, bB, K1, K2⟩ := formB_elim h1
  obtain ⟨e5, bU⟩ := okN_elim (by omega) h2
  have e6 : l = 2 := by omega
  clear e5
  rw [bansB, if_pos hbo]
  subst e1 e2 e3 e4 e6
  have H0 : Hid _ := h0
  have H1 : Hid _ := h1
  have H2 : Hid _ := h2
  clear hbo h0 h1 h2
  go_enter Try.func32, Try.ntmps32
  go_wp2_with fail
  refine (vok_any _ _ _ _ _ _ _ _ _ _ _ _ _ _ _ _ C D E ss _ (hC.below B_1) (hD.below B_1) (hE.below B_1) HN.out (hF.below B_1) hn hm hk hN1).mono ?_
  rintro r w2 ⟨rfl, b_2⟩
  rw [H0.out]
  have B_2 := B_1.trans (b_2.mono B_1.size)
  have q_2 := q_1.below b_2
  have f_2 := f_1.below b_2
  have v_2 := v_0.below b_2
  clear B_1 f_1 q_1 v_0 b_2
  obtain ⟨c_q0, c_q1⟩ := q_2.two
  obtain ⟨c_f0, c_f1, c_f2⟩ := f_2.three
  obtain ⟨c_v0, c_v1, c_v2, c_v3, c_v4, c_v5⟩ := v_2.sixK
  go_wp2_with fail
  refine (iok_any _ _ _ _ _ _ _ FC FD _ (hA.below B_2) (hB.below B_2) hfn hfm).mono ?_
  rintro r w3 ⟨rfl, b_3⟩
  rw [H1.out]
  clear c_q0 c_q1 c_f0 c_f1 c_f2 c_v0 c_v1 c_v2 c_v3 c_v4 c_v5
  have B_3 := B_2.trans (b_3.mono B_2.size)
  have q_3 := q_2.below b_3
  have f_3 := f_2.below b_3
  have v_3 := v_2.below b_3
  clear B_2 f_2 q_2 v_2 b_3
  obtain ⟨c_q0, c_q1⟩ := q_3.two
  obtain ⟨c_f0, c_f1, c_f2⟩ := f_3.three
  obtain ⟨c_v0, c_v1, c_v2, c_v3, c_v4, c_v5⟩ := v_3.sixK
  go_wp2_with fail
  refine (iarg_any _ _ _ U _ (hU.below B_3) hl).mono ?_
  rintro r w4 ⟨rfl, rfl⟩
  rw [H2.out]
  go_wp2_with fail
  refine (vbounds_any _ _ _ _ _ _ _ _ _ _ _ _ _ _ _ _ _ _ C D E U FC FD ss _ (hC.below B_3) (hD.below B_3) (hE.below B_3) (hU.below B_3) (hA.below B_3) (hB.below B_3) HN.out (hF.below B_3) hN1 m2 bC bE bU bA bB ⟨K1, K2⟩ bD).mono ?_
  rintro r w5 ⟨x, hx, rfl, b_5⟩
  clear c_q0 c_q1 c_f0 c_f1 c_f2 c_v0 c_v1 c_v2 c_v3 c_v4 c_v5
  have B_5 := B_3.trans (b_5.mono B_3.size)
  clear B_3 f_3 q_3 v_3 b_5
  have HX : Hid _ := hx
  clear hx
  obtain ⟨x0, x1, x2⟩ := x
  go_upto_region 5 with fail
  go_quiet (fail)
  go_wp2
  refine bodyPost_ret (v := .tuple #[.int .i64 x0, .int .i64 x1, .bool x2]) (by simp [results, Try.results32, go_sem]) rfl ⟨by rw [← HX.out]; rfl, below_drewN (B_5.alloc B_5.size _) _⟩

end Go.Proofs.Ytpnldfembbfgdaa
namespace Go.Proofs.Ytpnldfembbfgdaa
open Go.RowKit Go.Deep
set_option linter.unusedVariables false

theorem field_zero (Z1 Z2 : Nat) (W : World) : (Instr.field 34 (formV (some ⟨Z1, 0, none⟩) 3 3 (some ⟨Z2, 0, none⟩) 2 2 0) 0).run Try.prog W = .ok (.slice (some ⟨Z1, 0, none⟩) 3 3) W := by kernel_rfl

set_option maxRecDepth 100000 in
set_option maxHeartbeats 6400000 in
theorem sbounds_any (a : Option Addr) (n cap : Nat) (c : Option Addr) (m cap' : Nat) (ad : Option Addr) (N pc : Nat) (s : Int) (e : Option Addr) (k ec : Nat) (fa : Option Addr) (fn fcap : Nat) (fc : Option Addr) (fm fcap' : Nat) (FK : Int) (u : Option Addr) (l uc : Nat) (C D E FC FD U : List Int) (ss : List IV) (w : World)
    (hC : Ints w a n C) (hD : Ints w c m D) (hE : Ints w e k E) (hA : Ints w fa fn FC) (hB : Ints w fc fm FD) (hU : Ints w u l U) (hN : ss.length = N) (hF : ISG w ad ss) (hn : n ≤ 1048576) (hm : m ≤ 1048576) (hk : k ≤ 1048576) (hfn : fn ≤ 1048576) (hfm : fm ≤ 1048576) (hl : l ≤ 1048576) (hN1 : N ≤ 1048576) :
    Calls Try.prog 33 #[treV a n cap c m cap', .slice ad N pc, .int .i64 s, .slice e k ec, formV fa fn fcap fc fm fcap' FK, .slice u l uc] w fun r w' => r = .returned (ansV (bansB n m C D ss s k E fn fm FC FD FK l U)) ∧ Below w.heap.size w w' := by
  have HN : Hid (ss.length = N) := hN
  clear hN
  have q_0 := (Cel.new w [.slice a n cap, .slice c m cap'] 45).alloc (.cells #[.slice fa fn fcap, .slice fc fm fcap', .int .i64 FK] 34)
  have f_0 := Cel.new (w.alloc (.cells #[.slice a n cap, .slice c m cap'] 45)) [.slice fa fn fcap, .slice fc fm fcap', .int .i64 FK] 34
  have B_0 := ((Below.refl w.heap.size w).alloc (Nat.le_refl _) (.cells #[.slice a n cap, .slice c m cap'] 45)).alloc (by simp) (.cells #[.slice fa fn fcap, .slice fc fm fcap', .int .i64 FK] 34)
  rw [World.size_alloc] at f_0
  cases h0 : trtB n m C D
  · go_enter Try.func33, Try.ntmps33
    go_wp2_with fail
    refine (strt_any _ _ _ _ _ _ C D _ (hC.below B_0) (hD.below B_0) hn hm).mono ?_
    rintro r w1 ⟨rfl, b_1⟩
    rw [h0]
    have B_1 := B_0.trans (b_1.mono B_0.size)
    have q_1 := q_0.below b_1
    have f_1 := f_0.below b_1
    clear B_0 f_0 q_0 b_1
    obtain ⟨c_q0, c_q1⟩ := q_1.two
    obtain ⟨c_f0, c_f1, c_f2⟩ := f_1.three
    go_wp2
    refine bodyPost_ret (v := .tuple #[.int .i64 0, .int .i64 0, .bool false]) (by simp [results, Try.results33, go_sem]) rfl ⟨?_, B_1⟩
    rw [bansB, if_neg (by simp [bokB, viewB, h0])]
    rfl
  cases h1 : partsB ss
  · go_enter Try.func33, Try.ntmps33
    go_wp2_with fail
    refine (strt_any _ _ _ _ _ _ C D _ (hC.below B_0) (hD.below B_0) hn hm).mono ?_
    rintro r w1 ⟨rfl, b_1⟩
    rw [h0]
    have B_1 := B_0.trans (b_1.mono B_0.size)
    have q_1 := q_0.below b_1
    have f_1 := f_0.below b_1
    clear B_0 f_0 q_0 b_1
    obtain ⟨c_q0, c_q1⟩ := q_1.two
    obtain ⟨c_f0, c_f1, c_f2⟩ := f_1.three
    go_wp2_with fail
    refine (sparts_any _ _ _ ss _ HN.out (hF.below B_1) hN1).mono ?_
    rintro r w2 ⟨rfl, rfl⟩
    rw [h1]
    go_wp2
    refine bodyPost_ret (v := .tuple #[.int .i64 0, .int .i64 0, .bool false]) (by simp [results, Try.results33, go_sem]) rfl ⟨?_, B_1⟩
    rw [bansB, if_neg (by simp [bokB, viewB, h1])]
    rfl
  cases h2 : inB s 0 ((m : Int) - 1)
  · go_enter Try.func33, Try.ntmps33
    go_wp2_with fail
    refine (strt_any _ _ _ _ _ _ C D _ (hC.below B_0) (hD.below B_0) hn hm).mono ?_
    rintro r w1 ⟨rfl, b_1⟩
    rw [h0]
    have B_1 := B_0.trans (b_1.mono B_0.size)
    have q_1 := q_0.below b_1
    have f_1 := f_0.below b_1
    clear B_0 f_0 q_0 b_1
    obtain ⟨c_q0, c_q1⟩ := q_1.two
    obtain ⟨c_f0, c_f1, c_f2⟩ := f_1.three
    go_wp2_with fail
    refine (sparts_any _ _ _ ss _ HN.out (hF.below B_1) hN1).mono ?_
    rintro r w2 ⟨rfl, rfl⟩
    rw [h1]
    go_wp2_with fail
    refine (in_any _ _ _ _).mono ?_
    rintro r w3 ⟨rfl, rfl⟩
    rw [h2]
    go_wp2
    refine bodyPost_ret (v := .tuple #[.int .i64 0, .int .i64 0, .bool false]) (by simp [results, Try.results33, go_sem]) rfl ⟨?_, B_1⟩
    rw [bansB, if_neg (by simp [bokB, viewB, h2])]
    rfl
  cases h3 : okN 3 20000 k E
  · go_enter Try.func33, Try.ntmps33
    go_wp2_with fail
    refine (strt_any _ _ _ _ _ _ C D _ (hC.below B_0) (hD.below B_0) hn hm).mono ?_
    rintro r w1 ⟨rfl, b_1⟩
    rw [h0]
    have B_1 := B_0.trans (b_1.mono B_0.size)
    have q_1 := q_0.below b_1
    have f_1 := f_0.below b_1
    clear B_0 f_0 q_0 b_1
    obtain ⟨c_q0, c_q1⟩ := q_1.two
    obtain ⟨c_f0, c_f1, c_f2⟩ := f_1.three
    go_wp2_with fail
    refine (sparts_any _ _ _ ss _ HN.out (hF.below B_1) hN1).mono ?_
    rintro r w2 ⟨rfl, rfl⟩
    rw [h1]
    go_wp2_with fail
    refine (in_any _ _ _ _).mono ?_
    rintro r w3 ⟨rfl, rfl⟩
    rw [h2]
    go_wp2_with fail
    refine (all_any _ _ _ E _ _ _ (hE.below B_1) hk (by omega) (by omega)).mono ?_
    rintro r w4 ⟨rfl, rfl⟩
    rw [h3]
    go_wp2
    refine bodyPost_ret (v := .tuple #[.int .i64 0, .int .i64 0, .bool false]) (by simp [results, Try.results33, go_sem]) rfl ⟨?_, B_1⟩
    rw [bansB, if_neg (by simp [bokB, viewB, h3])]
    rfl
  cases h4 : formB fn fm FC FD FK
  · go_enter Try.func33, Try.ntmps33
    go_wp2_with fail
    refine (strt_any _ _ _ _ _ _ C D _ (hC.below B_0) (hD.below B_0) hn hm).mono ?_
    rintro r w1 ⟨rfl, b_1⟩
    rw [h0]
    have B_1 := B_0.trans (b_1.mono B_0.size)
    have q_1 := q_0.below b_1
    have f_1 := f_0.below b_1
    clear B_0 f_0 q_0 b_1
    obtain ⟨c_q0, c_q1⟩ := q_1.two
    obtain ⟨c_f0, c_f1, c_f2⟩ := f_1.three
    go_wp2_with fail
    refine (sparts_any _ _ _ ss _ HN.out (hF.below B_1) hN1).mono ?_
    rintro r w2 ⟨rfl, rfl⟩
    rw [h1]
    go_wp2_with fail
    refine (in_any _ _ _ _).mono ?_
    rintro r w3 ⟨rfl, rfl⟩
    rw [h2]
    go_wp2_with fail
    refine (all_any _ _ _ E _ _ _ (hE.below B_1) hk (by omega) (by omega)).mono ?_
    rintro r w4 ⟨rfl, rfl⟩
    rw [h3]
    go_wp2_with fail
    refine (sok_any _ _ _ _ _ _ _ FC FD _ (hA.below B_1) (hB.below B_1) hfn hfm).mono ?_
    rintro r w5 ⟨rfl, b_5⟩
    rw [h4]
    clear c_q0 c_q1 c_f0 c_f1 c_f2
    have B_5 := B_1.trans (b_5.mono B_1.size)
    have q_5 := q_1.below b_5
    have f_5 := f_1.below b_5
    clear B_1 f_1 q_1 b_5
    obtain ⟨c_q0, c_q1⟩ := q_5.two
    obtain ⟨c_f0, c_f1, c_f2⟩ := f_5.three
    go_wp2
    refine bodyPost_ret (v := .tuple #[.int .i64 0, .int .i64 0, .bool false]) (by simp [results, Try.results33, go_sem]) rfl ⟨?_, B_5⟩
    rw [bansB, if_neg (by simp [bokB, viewB, h4])]
    rfl
  cases h5 : okN 2 9 l U
  · go_enter Try.func33, Try.ntmps33
    go_wp2_with fail
    refine (strt_any _ _ _ _ _ _ C D _ (hC.below B_0) (hD.below B_0) hn hm).mono ?_
    rintro r w1 ⟨rfl, b_1⟩
    rw [h0]
    have B_1 := B_0.trans (b_1.mono B_0.size)
    have q_1 := q_0.below b_1
    have f_1 := f_0.below b_1
    clear B_0 f_0 q_0 b_1
    obtain ⟨c_q0, c_q1⟩ := q_1.two
    obtain ⟨c_f0, c_f1, c_f2⟩ := f_1.three
    go_wp2_with fail
    refine (sparts_any _ _ _ ss _ HN.out (hF.below B_1) hN1).mono ?_
    rintro r w2 ⟨rfl, rfl⟩
    rw [h1]
    go_wp2_with fail
    refine (in_any _ _ _ _).mono ?_
    rintro r w3 ⟨rfl, rfl⟩
    rw [h2]
    go_wp2_with fail
    refine (all_any _ _ _ E _ _ _ (hE.below B_1) hk (by omega) (by omega)).mono ?_
    rintro r w4 ⟨rfl, rfl⟩
    rw [h3]
    go_wp2_with fail
    refine (sok_any _ _ _ _ _ _ _ FC FD _ (hA.below B_1) (hB.below B_1) hfn hfm).mono ?_
    rintro r w5 ⟨rfl, b_5⟩
    rw [h4]
    clear c_q0 c_q1 c_f0 c_f1 c_f2
    have B_5 := B_1.trans (b_5.mono B_1.size)
    have q_5 := q_1.below b_5
    have f_5 := f_1.below b_5
    clear B_1 f_1 q_1 b_5
    obtain ⟨c_q0, c_q1⟩ := q_5.two
    obtain ⟨c_f0, c_f1, c_f2⟩ := f_5.three
    go_wp2_with fail
    refine (sarg_any _ _ _ U _ (hU.below B_5) hl).mono ?_
    rintro r w6 ⟨rfl, rfl⟩
    rw [h5]
    go_wp2
    refine bodyPost_ret (v := .tuple #[.int .i64 0, .int .i64 0, .bool false]) (by simp [results, Try.results33, go_sem]) rfl ⟨?_, B_5⟩
    rw [bansB, if_neg (by simp [bokB, viewB, h5])]
    rfl
  have hv : viewB n m C D ss s k E = true := by simp [viewB, h0, h1, h2, h3]
  have hbo : bokB n m C D ss s k E fn fm FC FD FK l U = true := by simp [bokB, hv, h4, h5]
  obtain ⟨e1, bC, m1, m2, -, s0, s1, e2, bE, bD⟩ := viewB_elim hv
  obtain ⟨e3, e4, bA, bB, K1, K2⟩ := formB_elim h4
  obtain ⟨e5, bU⟩ := okN_elim (by omega) h5
  have e6 : l = 2 := by omega
  clear e5
  rw [bansB, if_pos hbo]
  subst e1 e2 e3 e4 e6
  have H0 : Hid _ := h0
  have H1 : Hid _ := h1
  have H2 : Hid _ := h2
  have H3 : Hid _ := h3
  have H4 : Hid _ := h4
  have H5 : Hid _ := h5
  clear hv hbo h0 h1 h2 h3 h4 h5
  have HZ : Hid ((List.zipWith (· + ·) C E).length = 3) := by show _ = _; rw [List.length_zipWith, hC.1, hE.1]; rfl
  have bV : bnd 30000 (List.zipWith (· + ·) C E) := fun i => by have := bnd_zip (by rw [hC.1, hE.1]) bC bE i; omega
  have ob := others_bnd (s := s) bD m (by rw [hD.1]; exact Nat.le_refl _) m2
  have p1 := dot_bnd (bndP_of bA bV (by omega) (by omega)) 3
  have p2 := dot_bnd (bndP_of bB bU (by omega) (by omega)) 2
  obtain ⟨x, hx⟩ : ∃ x, x = bnds m C D ss s E FC FD FK U := ⟨_, rfl⟩
  rw [← hx]
  have HV : Hid (bnd 30000 (List.zipWith (· + ·) C E)) := bV
  have HCE : Hid (bnd 1000000000 C ∧ bnd 1000000000 E) := ⟨fun i => by have := bC i; omega, fun i => by have := bE i; omega⟩
  obtain ⟨n, hn'⟩ : ∃ n, n = atV FC FD FK (List.zipWith (· + ·) C E) U := ⟨_, rfl⟩
  obtain ⟨o, ho⟩ : ∃ o, o = others D s m := ⟨_, rfl⟩
  have n1 : -10000000000000 ≤ n := by rw [hn']; unfold atV; omega
  have n2 : n ≤ 10000000000000 := by rw [hn']; unfold atV; omega
  rw [← ho] at ob
  rw [bnds, ← hn', ← ho] at hx
  have HI : Hid _ := hx
  have HNN : Hid _ := hn'
  have HO : Hid _ := ho
  obtain ⟨o1, o2⟩ := ob
  have o3 : o ≤ 150 := by omega
  have hw1 : IntKind.i64.wrap (n - o) = n - o := wrap_id (by omega) (by omega)
  have hw2 : IntKind.i64.wrap (n + o) = n + o := wrap_id (by omega) (by omega)
  have HW : Hid (IntKind.i64.wrap (n - o) = n - o ∧ IntKind.i64.wrap (n + o) = n + o) := ⟨hw1, hw2⟩
  have bK : -10000000 ≤ FK ∧ FK ≤ 10000000 := ⟨K1, K2⟩
  clear hx hn' ho o2 p1 p2 bV bD bC bE hw1 hw2
  go_enter Try.func33, Try.ntmps33
  go_wp2_with fail
  refine (strt_any _ _ _ _ _ _ C D _ (hC.below B_0) (hD.below B_0) hn hm).mono ?_
  rintro r w1 ⟨rfl, b_1⟩
  rw [H0.out]
  have B_1 := B_0.trans (b_1.mono B_0.size)
  have q_1 := q_0.below b_1
  have f_1 := f_0.below b_1
  clear B_0 f_0 q_0 b_1
  obtain ⟨c_q0, c_q1⟩ := q_1.two
  obtain ⟨c_f0, c_f1, c_f2⟩ := f_1.three
  go_wp2_with fail
  refine (sparts_any _ _ _ ss _ HN.out (hF.below B_1) hN1).mono ?_
  rintro r w2 ⟨rfl, rfl⟩
  rw [H1.out]
  go_wp2_with fail
  refine (in_any _ _ _ _).mono ?_
  rintro r w3 ⟨rfl, rfl⟩
  rw [H2.out]
  go_wp2_with fail
  refine (all_any _ _ _ E _ _ _ (hE.below B_1) hk (by omega) (by omega)).mono ?_
  rintro r w4 ⟨rfl, rfl⟩
  rw [H3.out]
  go_wp2_with fail
  refine (sok_any _ _ _ _ _ _ _ FC FD _ (hA.below B_1) (hB.below B_1) hfn hfm).mono ?_
  rintro r w5 ⟨rfl, b_5⟩
  rw [H4.out]
  clear c_q0 c_q1 c_f0 c_f1 c_f2
  have B_5 := B_1.trans (b_5.mono B_1.size)
  have q_5 := q_1.below b_5
  have f_5 := f_1.below b_5
  clear B_1 f_1 q_1 b_5
  obtain ⟨c_q0, c_q1⟩ := q_5.two
  obtain ⟨c_f0, c_f1, c_f2⟩ := f_5.three
  go_wp2_with fail
  refine (sarg_any _ _ _ U _ (hU.below B_5) hl).mono ?_
  rintro r w6 ⟨rfl, rfl⟩
  rw [H5.out]
  clear c_q0 c_q1 c_f0 c_f1 c_f2
  have CC : Hid (∀ X : World, Cel X w.heap.size [.slice a 3 cap, .slice c m cap'] 45 → Cel X (w.heap.size + 1) [.slice fa 3 fcap, .slice fc 2 fcap', .int .i64 FK] 34 → X.cell? ⟨w.heap.size, 0, none⟩ = some (.slice a 3 cap) ∧ X.cell? ⟨w.heap.size, 1, none⟩ = some (.slice c m cap') ∧ X.cell? ⟨w.heap.size + 1, 0, none⟩ = some (.slice fa 3 fcap) ∧ X.cell? ⟨w.heap.size + 1, 1, none⟩ = some (.slice fc 2 fcap') ∧ X.cell? ⟨w.heap.size + 1, 2, none⟩ = some (.int .i64 FK)) := fun X h1 h2 => ⟨h1.cell 0, h1.cell 1, h2.cell 0, h2.cell 1, h2.cell 2⟩
  have hn0 := CC.out _ q_5 f_5
  go_upto_region 3 with fail
  go_region_held3 (fun w' => w'.cell? ⟨w.heap.size, 0, none⟩ = some (.slice a 3 cap) ∧ w'.cell? ⟨w.heap.size, 1, none⟩ = some (.slice c m cap') ∧ w'.cell? ⟨w.heap.size + 1, 0, none⟩ = some (.slice fa 3 fcap) ∧ w'.cell? ⟨w.heap.size + 1, 1, none⟩ = some (.slice fc 2 fcap') ∧ w'.cell? ⟨w.heap.size + 1, 2, none⟩ = some (.int .i64 FK)) (first | with_reducible assumption | exact hn0)
    (first
      | (go_at_call 70
         refine (sum5_any _ _ _ _ C E _ (by exact hC.below B_5.drew) (by exact hE.below B_5.drew) HCE.out.1 HCE.out.2).mono ?_
         rintro ee y1 ⟨v, rfl, j⟩
         obtain ⟨va, vc, rfl, iV⟩ := j.slice3 HZ.out
         have x_1 := below_of_drew j.b
         have X_1 := B_5.trans (x_1.mono B_5.size)
         have qx_1 := q_5.below x_1
         have fx_1 := f_5.below x_1
         have hn1 := CC.out y1 qx_1 fx_1)
      | (go_at_call 45
         refine (sat30_any _ _ _ _ _ FC FD _ _ _ _ (List.zipWith (· + ·) C E) U _ (by exact hA.below X_1) (by exact hB.below X_1) iV (by exact hU.below X_1) bA bB bK HV.out bU).mono ?_
         rintro ee y2 ⟨rfl, x_2⟩
         rw [← HNN.out]
         have X_2 := X_1.trans (x_2.mono X_1.size)
         have qx_2 := qx_1.below x_2
         have fx_2 := fx_1.below x_2
         have hn2 := CC.out y2 qx_2 fx_2))
  clear hn0 hn1 iV j x_1 x_2 X_1 qx_1 fx_1 B_5 q_5 f_5
  obtain ⟨k0, k1, k2, k3, k4⟩ := hn2
  go_wp2_with fail
  refine (spart_any _ _ _ _ _ _ _ FC _ (hA.below X_2) (by omega)).mono ?_
  rintro r w21 ⟨pa, pcap, rfl, b_21, ip_21, -⟩
  clear k0 k1 k2 k3 k4
  have B_21 := X_2.trans (b_21.mono X_2.size)
  have q_21 := qx_2.below b_21
  have f_21 := fx_2.below b_21
  clear X_2 fx_2 qx_2 b_21
  obtain ⟨c_q0, c_q1⟩ := q_21.two
  obtain ⟨c_f0, c_f1, c_f2⟩ := f_21.three
  go_wp2_with fail
  refine (szero_any _).mono ?_
  rintro r w22 ⟨Z1, Z2, rfl, b_22, -, -, -, kz_22, -⟩
  clear c_q0 c_q1 c_f0 c_f1 c_f2
  have B_22 := B_21.trans (b_22.mono B_21.size)
  have q_22 := q_21.below b_22
  have f_22 := f_21.below b_22
  have ip_22 := ip_21.below b_22
  clear B_21 f_21 ip_21 q_21 b_22
  obtain ⟨c_q0, c_q1⟩ := q_22.two
  obtain ⟨c_f0, c_f1, c_f2⟩ := f_22.three
  have hfd := field_zero Z1 Z2
  go_wp2_with fail
  refine (l4same_any _ _ _ _ _ _ (partL FC) [0, 0, 0] _ ip_22 (show Ints _ _ 3 _ from kz_22.ints' rfl) (by omega) (by omega)).mono ?_
  rintro r w23 ⟨rfl, b_23⟩
  clear c_q0 c_q1 c_f0 c_f1 c_f2
  have B_23 := B_22.trans (b_23.mono B_22.size)
  have q_23 := q_22.below b_23
  have f_23 := f_22.below b_23
  have ip_23 := ip_22.below b_23
  clear B_22 f_22 ip_22 kz_22 q_22 b_23
  obtain ⟨c_q0, c_q1⟩ := q_23.two
  obtain ⟨c_f0, c_f1, c_f2⟩ := f_23.three
  clear hfd
  cases hz : eqB (partL FC) [0, 0, 0]
  · go_wp2_with fail
    refine (shas_any _ _ _ ss _ _ _ (partL FC) _ HN.out (hF.below B_23) hN1 ip_23 (by omega)).mono ?_
    rintro r w24 ⟨rfl, b_24⟩
    clear c_q0 c_q1 c_f0 c_f1 c_f2
    have B_24 := B_23.trans (b_24.mono B_23.size)
    have q_24 := q_23.below b_24
    have f_24 := f_23.below b_24
    clear B_23 f_23 ip_23 q_23 b_24
    obtain ⟨c_q0, c_q1⟩ := q_24.two
    obtain ⟨c_f0, c_f1, c_f2⟩ := f_24.three
    by_cases hh : hasI ss (partL FC) < 0
    · have X : x = (0, 0, false) := by rw [HI.out, hz, if_neg (by decide), if_pos hh]
      have HX2 : Hid _ := X
      clear X
      go_wp2
      refine bodyPost_ret (v := .tuple #[.int .i64 0, .int .i64 0, .bool false]) (by simp [results, Try.results33, go_sem]) rfl ⟨by rw [HX2.out]; rfl, B_24⟩
    have X : x = (n - o, n + o, true) := by rw [HI.out, hz, if_neg (by decide), if_neg hh]
    have HX2 : Hid _ := X
    clear X
    clear c_q0 c_q1 c_f0 c_f1 c_f2
    have hn0 := CC.out _ q_24 f_24
    go_upto_region 9 with fail
    go_region_held3 (fun w' => w'.cell? ⟨w.heap.size, 0, none⟩ = some (.slice a 3 cap) ∧ w'.cell? ⟨w.heap.size, 1, none⟩ = some (.slice c m cap') ∧ w'.cell? ⟨w.heap.size + 1, 0, none⟩ = some (.slice fa 3 fcap) ∧ w'.cell? ⟨w.heap.size + 1, 1, none⟩ = some (.slice fc 2 fcap') ∧ w'.cell? ⟨w.heap.size + 1, 2, none⟩ = some (.int .i64 FK)) (first | with_reducible assumption | exact hn0)
      (first
        | (go_at_call 75
           refine (sothers_any _ _ _ _ _ _ D s _ (by exact hD.below Z_1) (by omega)).mono ?_
           rintro ee y4 ⟨rfl, z_2⟩
           rw [← HO.out]
           have Z_2 := Z_1.trans (z_2.mono Z_1.size)
           have hn4 := CC.out y4 (qz_1.below z_2) (fz_1.below z_2))
        | (go_at_call 75
           refine (sothers_any _ _ _ _ _ _ D s _ (by exact hD.below B_24.drew) (by omega)).mono ?_
           rintro ee y3 ⟨rfl, zd_1⟩
           rw [← HO.out]
           have z_1 := below_of_drew zd_1
           have Z_1 := B_24.trans (z_1.mono B_24.size)
           have qz_1 := q_24.below z_1
           have fz_1 := f_24.below z_1
           have hn3 := CC.out y3 qz_1 fz_1))
    rw [HW.out.1, HW.out.2]
    go_wp2
    refine bodyPost_ret (v := .tuple #[.int .i64 (n - o), .int .i64 (n + o), .bool true]) (by simp [results, Try.results33, go_sem]) rfl ⟨by rw [HX2.out]; rfl, Z_2⟩
  · have X : x = (n, n, true) := by rw [HI.out, hz, if_pos rfl]
    have HX2 : Hid _ := X
    clear X
    go_wp2
    refine bodyPost_ret (v := .tuple #[.int .i64 n, .int .i64 n, .bool true]) (by simp [results, Try.results33, go_sem]) rfl ⟨by rw [HX2.out]; rfl, B_23⟩

end Go.Proofs.Ytpnldfembbfgdaa
namespace Go.Proofs.Ytpnldfembbfgdaa
open Go.RowKit
set_option linter.unusedVariables false

theorem two_of {A : List Int} (h : A.length = 2) : ∃ x y, A = [x, y] := by
  match A, h with
  | [x, y], _ => exact ⟨x, y, rfl⟩
theorem three_of {A : List Int} (h : A.length = 3) : ∃ x y z, A = [x, y, z] := by
  match A, h with
  | [x, y, z], _ => exact ⟨x, y, z, rfl⟩
/-- Within what a form's numbers may be. -/
def inM (x : Int) : Prop := -10000000 ≤ x ∧ x ≤ 10000000
theorem okP_of {x y z s t K : Int} (hx : inM x) (hy : inM y) (hz : inM z) (hs : inM s) (ht : inM t) (hK : inM K) : okP ([x, y, z], [s, t], K) = true := by
  unfold inM at *
  simp [okP, formB, okN, allB, inB]
  omega
theorem okP_shape {f : Frm} (h : okP f = true) : ∃ x y z s t K, f = ([x, y, z], [s, t], K) ∧ inM x ∧ inM y ∧ inM z ∧ inM s ∧ inM t ∧ inM K := by
  obtain ⟨C, D, K⟩ := f
  obtain ⟨l1, l2, b1, b2, b3, b4⟩ := formB_elim h
  obtain ⟨x, y, z, rfl⟩ := three_of l1
  obtain ⟨s, t, rfl⟩ := two_of l2
  have c0 := b1 0
  have c1 := b1 1
  have c2 := b1 2
  have d0 := b2 0
  have d1 := b2 1
  simp only [List.getElem?_cons_zero, List.getElem?_cons_succ, Option.getD_some] at c0 c1 c2 d0 d1
  exact ⟨x, y, z, s, t, K, rfl, c0, c1, c2, d0, d1, ⟨b3, b4⟩⟩
theorem okP_no {x y z s t K : Int} (h : okP ([x, y, z], [s, t], K) = true) : inM x ∧ inM y ∧ inM z ∧ inM s ∧ inM t ∧ inM K := by
  obtain ⟨x', y', z', s', t', K', e, h⟩ := okP_shape h
  simp only [Prod.mk.injEq, List.cons.injEq, and_true] at e
  obtain ⟨⟨rfl, rfl, rfl⟩, ⟨rfl, rfl⟩, rfl⟩ := e
  exact h
theorem timP_no {f : Frm} {k : Int} (h : timB f k = false) : timP f k = ([], [], 0) := by unfold timP; rw [h]; rfl
theorem timP_yes {f : Frm} {k : Int} (h : timB f k = true) : timP f k = (mulL k f.1, mulL k f.2.1, k * f.2.2) := by unfold timP; rw [h]; rfl
theorem timB_ok {f : Frm} {k : Int} (h : timB f k = true) : okP f = true ∧ -10000000 ≤ k ∧ k ≤ 10000000 := by
  unfold timB timOk at h
  simp only [Bool.and_eq_true] at h
  exact ⟨h.1.1, inB_iff.1 h.1.2⟩
theorem timB_not {f : Frm} {k : Int} (h : okP f = false) : timB f k = false := by
  unfold okP at h
  unfold timB timOk
  rw [h]; rfl
theorem tim_shape {x y z s t K k : Int} (h : okP ([x, y, z], [s, t], K) = true) (h1 : -10000000 ≤ k) (h2 : k ≤ 10000000) (h3 : okP ([k * x, k * y, k * z], [k * s, k * t], k * K) = true) : timP ([x, y, z], [s, t], K) k = ([k * x, k * y, k * z], [k * s, k * t], k * K) := by
  have hb : timB ([x, y, z], [s, t], K) k = true := by
    unfold timB timOk
    unfold okP at h h3
    rw [h, inB_iff.2 ⟨h1, h2⟩]
    exact h3
  rw [timP_yes hb]
  rfl
theorem tim_one {f : Frm} (h : okP f = true) : timP f 1 = f := by
  obtain ⟨x, y, z, s, t, K, rfl, _⟩ := okP_shape h
  have e := tim_shape (k := 1) h (by omega) (by omega) (by simpa using h)
  simpa using e
theorem tim_nil {f : Frm} (h : okP f = true) : timP f 0 = zeroP := by
  obtain ⟨x, y, z, s, t, K, rfl, _⟩ := okP_shape h
  have e := tim_shape (k := 0) h (by omega) (by omega) (by simp; decide)
  simpa [zeroP] using e
theorem tim_neg {x y z s t K : Int} (h : okP ([x, y, z], [s, t], K) = true) : timP ([x, y, z], [s, t], K) (-1) = ([-x, -y, -z], [-s, -t], -K) ∧ okP ([-x, -y, -z], [-s, -t], -K) = true := by
  obtain ⟨a1, a2, a3, a4, a5, a6⟩ := okP_no h
  have h' : okP ([-x, -y, -z], [-s, -t], -K) = true := okP_of (by unfold inM at *; omega) (by unfold inM at *; omega) (by unfold inM at *; omega) (by unfold inM at *; omega) (by unfold inM at *; omega) (by unfold inM at *; omega)
  have e := tim_shape (k := -1) h (by omega) (by omega) (by simpa using h')
  exact ⟨by simpa using e, h'⟩
theorem tim_back {f : Frm} (h : okP f = true) : timP (timP f (-1)) (-1) = f := by
  obtain ⟨x, y, z, s, t, K, rfl, _⟩ := okP_shape h
  obtain ⟨e, h'⟩ := tim_neg h
  rw [e, (tim_neg h').1]
  simp
theorem add_neg {f : Frm} (h : okP f = true) : addP f (timP f (-1)) = zeroP := by
  obtain ⟨x, y, z, s, t, K, rfl, _⟩ := okP_shape h
  obtain ⟨e, h'⟩ := tim_neg h
  rw [e]
  have hb : addB ([x, y, z], [s, t], K) ([-x, -y, -z], [-s, -t], -K) = true := by
    unfold addB addOk
    unfold okP at h h'
    rw [h, h']
    simp [lin, formB, okN, allB, inB]
    omega
  unfold addP
  rw [hb]
  simp [keepL, keepK, lin, zeroP]
  omega
theorem dot_mul {xs V : List Int} {n : Int} {k : Nat} (h : xs.length = k) : ∀ j, j ≤ k → dot (mulL n xs) V j = n * dot xs V j
  | 0, _ => by simp [dot]
  | j + 1, hj => by
    have ih := dot_mul (V := V) (n := n) h j (by omega)
    have e := mulL_get (n := n) (zs := xs) (i := j) (by omega)
    simp only [dot, ih, e]
    rw [Int.mul_add, Int.mul_assoc]
theorem at_bnd {f : Frm} {V A : List Int} : -10000000000000 ≤ atP f V A ∧ atP f V A ≤ 10000000000000 := by
  unfold atP
  cases h : atOk f.1.length f.2.1.length V.length A.length f.1 f.2.1 f.2.2 V A
  · rw [atN_no h]; omega
  · rw [atN_yes h]
    unfold atOk at h
    simp only [Bool.and_eq_true] at h
    obtain ⟨⟨h1, h2⟩, h3⟩ := h
    obtain ⟨_, _, b1, b2, b3, b4⟩ := formB_elim h1
    have v1 := (okN_elim (by omega) h2).2
    have a1 := (okN_elim (by omega) h3).2
    have d1 := dot_bnd (bndP_of b1 v1 (by omega) (by omega)) 3
    have d2 := dot_bnd (bndP_of b2 a1 (by omega) (by omega)) 2
    unfold atV
    omega
theorem tim_at {f : Frm} {k : Int} {V A : List Int} (h : atB (timP f k) V A = true) : atB f V A = true ∧ atP (timP f k) V A = k * atP f V A := by
  have hb : timB f k = true := by
    cases hb : timB f k
    · rw [timP_no hb] at h
      unfold atB atOk at h
      simp [formB, okN] at h
    · rfl
  obtain ⟨h1, _, _⟩ := timB_ok hb
  have h' := h
  unfold atB atOk at h'
  simp only [Bool.and_eq_true] at h'
  obtain ⟨⟨_, hV⟩, hA⟩ := h'
  have t1 : atB f V A = true := by unfold okP at h1; unfold atB atOk; rw [h1, hV, hA]; rfl
  refine ⟨t1, ?_⟩
  have l1 := formB_elim h1
  unfold atP
  rw [atN_yes h, atN_yes t1, timP_yes hb]
  unfold atV
  rw [dot_mul l1.1 3 (by omega), dot_mul l1.2.1 2 (by omega)]
  dsimp only
  rw [Int.mul_add, Int.mul_add]

end Go.Proofs.Ytpnldfembbfgdaa
namespace Go.Proofs.Ytpnldfembbfgdaa.fnTrtBounds
open Go.ChangeShapes Go.WideShapes Go.ChangeAt Go.RowKit
set_option linter.unusedVariables false
set_option maxRecDepth 100000

theorem open_bytesT {H : Type} {enc : TypeId × Value → H} {W : World} {r : Reach} {b0 : Nat} {v : Value} {d : DataW H} {p : List MemPlace}
    (hv : Value.okWide Try.prog W r b0 22 v) (h : DataW.Trod enc Try.prog W 0 (fun _ => true) true 22 v d p) : ∃ a n cap zs, v = .slice a n cap ∧ BInts W a n zs ∧ (n ≤ cap ∧ cap ≤ maxLen) := by
  obtain ⟨a0, len0, cap0, rfl⟩ := okWide_slice Try.underlying22 hv
  obtain ⟨fuel, hf⟩ := h
  rcases open_ints Try.underlying22 Try.underlying5 (by kernel_rfl) hf with ⟨hcs, _⟩ | ⟨x, l, c, zs, hcs, _, hl, hm, hz, _, hcell, hwz⟩
  · simp [Value.cells] at hcs
    obtain ⟨rfl, rfl, rfl⟩ := hcs
    exact ⟨none, 0, 0, [], rfl, ⟨rfl, fun i hi => by omega, fun i => by simp⟩, by omega, by unfold maxLen; omega⟩
  · simp [Value.cells] at hcs
    obtain ⟨rfl, rfl, rfl⟩ := hcs
    have hz' : zs.length = cap0 := by simpa using hz
    refine ⟨some x, len0, cap0, zs.take len0, rfl, ⟨by rw [List.length_take]; omega, fun i hi => ?_, fun i => ?_⟩, hl, hm⟩
    · obtain ⟨b, off, spot⟩ := x
      have hc0 := hcell 0 (by omega)
      have hspot : spot = none := by simpa [Addr.add] using World.cell?_spot hc0
      subst hspot
      refine ⟨b, off, rfl, ?_⟩
      have hc := hcell i (by omega)
      have : W.cell? ⟨b, off + i, none⟩ = some (.int .u8 (zs.getD i 0)) := by
        by_cases h0 : i = 0
        · subst h0; simpa [Addr.add] using hc
        · simpa [Addr.add, h0] using hc
      rw [this]
      simp [hi]
    · by_cases hi : i < (zs.take len0).length
      · rw [List.getElem?_eq_getElem hi]
        have := hwz _ (List.mem_of_mem_take (List.getElem_mem hi))
        simpa [Lit.wf, IntKind.min, IntKind.max, IntKind.signed, IntKind.bits] using this
      · rw [List.getElem?_eq_none (by omega)]
        simp

theorem bans_no {n m : Nat} {C D : List Int} {ss : List IV} {s : Int} {k : Nat} {E : List Int} {fn fm : Nat} {FC FD : List Int} {FK : Int} {l : Nat} {U : List Int} {lo hi : Int} (h : bansB n m C D ss s k E fn fm FC FD FK l U = (lo, hi, false)) : lo = 0 ∧ hi = 0 := by
  unfold bansB at h
  split at h
  · unfold bnds at h
    split at h
    · simp at h
    · split at h
      · simp only [Prod.mk.injEq] at h
        exact ⟨h.1.symm, h.2.1.symm⟩
      · simp at h
  · simp only [Prod.mk.injEq] at h
    exact ⟨h.1.symm, h.2.1.symm⟩
theorem bans_yes {n m : Nat} {C D : List Int} {ss : List IV} {s : Int} {k : Nat} {E : List Int} {fn fm : Nat} {FC FD : List Int} {FK : Int} {l : Nat} {U : List Int} {lo hi : Int} (h : bansB n m C D ss s k E fn fm FC FD FK l U = (lo, hi, true)) : n = 3 ∧ 1 ≤ m ∧ m ≤ 3 ∧ 0 ≤ s ∧ s < m ∧ k = 3 ∧ bnd 10000 C ∧ bnd 20000 E := by
  unfold bansB at h
  split at h
  · rename_i hb
    unfold bokB at hb
    simp only [Bool.and_eq_true] at hb
    obtain ⟨a, b, c, d, _, e, f, g, i, _⟩ := viewB_elim hb.1
    exact ⟨a, c, d, e, f, g, b, i⟩
  · simp at h
/-- What the first sites have added, so far. -/
def AddK (es : List IV) (k u : Nat) (E : List Int) : Prop := (∀ i, i < k → bnd 20000 (es[i]?.getD noI).x) ∧ (u < k → (es[u]?.getD noI).x = E)
theorem AddK.nil (u : Nat) (E : List Int) : AddK [] 0 u E := ⟨fun i hi => by omega, fun h => by omega⟩
theorem AddK.app {es : List IV} {k u : Nat} {E : List Int} {y : IV} (h : AddK es k u E) (hk : es.length = k) (hb : bnd 20000 y.x) (hu : k = u → y.x = E) : AddK (es ++ [y]) (k + 1) u E := by
  have e : ∀ i, i < k → (es ++ [y])[i]?.getD noI = es[i]?.getD noI := fun i hi => by rw [List.getElem?_append_left (by omega)]
  have e2 : (es ++ [y])[k]?.getD noI = y := by rw [List.getElem?_append_right (by omega), hk, Nat.sub_self]; rfl
  refine ⟨fun i hi => ?_, fun hi => ?_⟩
  · by_cases h1 : i < k
    · rw [e i h1]; exact h.1 i h1
    · have : i = k := by omega
      rw [this, e2]; exact hb
  · by_cases h1 : u < k
    · rw [e u h1]; exact h.2 h1
    · have : u = k := by omega
      rw [this, e2]; exact hu this.symm
theorem lit3 {W : World} {B : Nat} {x y z : Int} (h : Cel W B [.int .i64 x, .int .i64 y, .int .i64 z] 3) : Ints W (some ⟨B, 0, none⟩) 3 [x, y, z] := ⟨rfl, fun i hi => ⟨B, 0, rfl, by
  rw [Nat.zero_add, h.cell i]
  match i, hi with
  | 0, _ => rfl
  | 1, _ => rfl
  | 2, _ => rfl⟩⟩
theorem bnd3 {M x y z : Int} (h0 : 0 ≤ M) (hx : -M ≤ x ∧ x ≤ M) (hy : -M ≤ y ∧ y ≤ M) (hz : -M ≤ z ∧ z ≤ M) : bnd M [x, y, z] := fun i => by
  match i with
  | 0 => exact hx
  | 1 => exact hy
  | 2 => exact hz
  | i + 3 => simp; omega
theorem wt {x d e : Int} (h1 : 0 < d) (h2 : d ≤ 9) (e0 : 0 ≤ e) (e4 : e ≤ 4) : -20 ≤ IntKind.i64.wrap (x.tmod d - e) ∧ IntKind.i64.wrap (x.tmod d - e) ≤ 20 := by
  have a := Int.tmod_lt_of_pos x h1
  have b := Int.lt_tmod_of_pos x h1
  rw [wrap_id (by omega) (by omega)]
  omega
theorem cellA {W : World} {b i : Nat} {v : Value} (o : Obj) (h : W.cell? ⟨b, i, none⟩ = some v) : (W.alloc o).cell? ⟨b, i, none⟩ = some v := by
  rw [((Below.refl W.heap.size W).alloc (Nat.le_refl _) o).cell (p := ⟨b, i, none⟩) (block_lt h)]
  exact h
theorem bnd_up {M M' : Int} {xs : List Int} (h : bnd M xs) (hM : M ≤ M') : bnd M' xs := fun i => by have := h i; omega

set_option maxHeartbeats 25600000 in
theorem walk (w : World) (a : Option Addr) (n cap : Nat) (A0 : List Int) (hA0 : BInts w a n A0) (hn : n ≤ cap ∧ cap ≤ maxLen) (c : Option Addr) (m cap' : Nat) (B0 : List Int) (hB0 : BInts w c m B0) (hm : m ≤ cap' ∧ cap' ≤ maxLen) :
    Calls Try.prog 7 #[.slice a n cap, .slice c m cap'] w fun e w' => e = .returned (.bool true) ∧ Below w.heap.size w w' := by
  obtain ⟨hn2, hn3⟩ := hn
  obtain ⟨hm2, hm3⟩ := hm
  by_cases hn1 : n ≤ 1048576
  · by_cases hm1 : m ≤ 1048576
    · go_enter Try.func7, Try.ntmps7
      go_wp2_with fail
      refine (dBounds _ _ _ A0 _ hA0 hn2 hn1 hn3).mono ?_
      rintro ee w1 ⟨ba, bn, bc, ga, gn, gc, B, G, pa, pn, pc, ts, s, ea, en, ec, E, fa, fn, fc, fb, fm, fd, F, ua, un, uc, U, rfl, b1, hB, hG, hbn, hgn, _, hP, hpn, hpn1, hE, hen, hF, hU, hun, hs0, hs2⟩
      have BB := b1
      replace hB0 := hB0.below b1
      clear b1
      have HP : Hid (ts.length = pn) := hpn
      clear hpn
      obtain ⟨lo, hw, ok, hA⟩ : ∃ lo hi ok, bansB bn gn B G ts s en E fn fm F.1 F.2.1 F.2.2 un U = (lo, hi, ok) := by (rcases hq : bansB bn gn B G ts s en E fn fm F.1 F.2.1 F.2.2 un U with ⟨x, y, z⟩; exact ⟨x, y, z, rfl⟩)
      have HA : Hid (bansB bn gn B G ts s en E fn fm F.1 F.2.1 F.2.2 un U = (lo, hw, ok)) := hA
      clear hA
      have hLL : (lo != lo) = false := by simp
      have hHH : (hw != hw) = false := by simp
      have hOO : (ok != ok) = false := by cases ok <;> rfl
      have al := (Below.refl (w1).heap.size (w1)).alloc (Nat.le_refl _) (.cells #[.slice ba bn bc, .slice ga gn gc] 45)
      replace BB := BB.trans (al.mono BB.size)
      replace hB0 := hB0.below al
      replace hB := hB.below al
      replace hG := hG.below al
      replace hP := hP.below al
      replace hE := hE.below al
      replace hF := hF.below al
      replace hU := hU.below al
      clear al
      have q5 := Cel.new (w1) [.slice ba bn bc, .slice ga gn gc] 45
      have al := (Below.refl ((w1).alloc (.cells #[.slice ba bn bc, .slice ga gn gc] 45)).heap.size ((w1).alloc (.cells #[.slice ba bn bc, .slice ga gn gc] 45))).alloc (Nat.le_refl _) (.cells #[.slice fa fn fc, .slice fb fm fd, .int .i64 F.2.2] 34)
      replace BB := BB.trans (al.mono BB.size)
      replace hB0 := hB0.below al
      replace hB := hB.below al
      replace hG := hG.below al
      replace hP := hP.below al
      replace hE := hE.below al
      replace hF := hF.below al
      replace hU := hU.below al
      replace q5 := q5.below al
      clear al
      have q9 := Cel.new ((w1).alloc (.cells #[.slice ba bn bc, .slice ga gn gc] 45)) [.slice fa fn fc, .slice fb fm fd, .int .i64 F.2.2] 34
      simp only [World.size_alloc] at q9
      have g5_0 := q5.cell 0
      have g5_1 := q5.cell 1
      have g9_0 := q9.cell 0
      have g9_1 := q9.cell 1
      have g9_2 := q9.cell 2
      simp only [List.getElem?_cons_zero, List.getElem?_cons_succ] at g5_0 g5_1 g9_0 g9_1 g9_2
      go_wp2_with fail
      obtain ⟨W2, hW2⟩ : ∃ W, W = ((w1).alloc (.cells #[.slice ba bn bc, .slice ga gn gc] 45)).alloc (.cells #[.slice fa fn fc, .slice fb fm fd, .int .i64 F.2.2] 34) := ⟨_, rfl⟩
      rw [← hW2]
      rw [← hW2] at hB0 hB hG hP hE hF hU q5 q9 BB g5_0 g5_1 g9_0 g9_1 g9_2
      clear hW2
      obtain ⟨X9, hX9⟩ : ∃ x, x = w1.heap.size + 1 := ⟨_, rfl⟩
      rw [← hX9]
      rw [← hX9] at q9 g9_0 g9_1 g9_2
      clear hX9
      obtain ⟨X5, hX5⟩ : ∃ x, x = w1.heap.size := ⟨_, rfl⟩
      rw [← hX5]
      rw [← hX5] at q5 g5_0 g5_1
      clear hX5
      refine (ibounds_any _ _ _ _ _ _ _ _ _ s _ _ _ _ _ _ _ _ _ F.2.2 _ _ _ B G E F.1 F.2.1 U ts _ hB hG hE hF.C hF.D hU HP.out hP (by omega) (by omega) (by omega) hF.hn hF.hm (by omega) (by omega)).mono ?_
      rintro ee w3 ⟨rfl, b2⟩
      rw [HA.out]
      simp only [ansV]
      clear g5_0 g5_1 g9_0 g9_1 g9_2
      replace BB := BB.trans (b2.mono BB.size)
      replace hB0 := hB0.below b2
      replace hB := hB.below b2
      replace hG := hG.below b2
      replace hP := hP.below b2
      replace hE := hE.below b2
      replace hF := hF.below b2
      replace hU := hU.below b2
      replace q5 := q5.below b2
      replace q9 := q9.below b2
      clear b2
      have g5_0 := q5.cell 0
      have g5_1 := q5.cell 1
      have g9_0 := q9.cell 0
      have g9_1 := q9.cell 1
      have g9_2 := q9.cell 2
      simp only [List.getElem?_cons_zero, List.getElem?_cons_succ] at g5_0 g5_1 g9_0 g9_1 g9_2
      go_wp2_with fail
      refine (sbounds_any _ _ _ _ _ _ _ _ _ s _ _ _ _ _ _ _ _ _ F.2.2 _ _ _ B G E F.1 F.2.1 U ts _ hB hG hE hF.C hF.D hU HP.out hP (by omega) (by omega) (by omega) hF.hn hF.hm (by omega) (by omega)).mono ?_
      rintro ee w4 ⟨rfl, b2⟩
      rw [HA.out]
      simp only [ansV]
      clear g5_0 g5_1 g9_0 g9_1 g9_2
      replace BB := BB.trans (b2.mono BB.size)
      replace hB0 := hB0.below b2
      replace hB := hB.below b2
      replace hG := hG.below b2
      replace hP := hP.below b2
      replace hE := hE.below b2
      replace hF := hF.below b2
      replace hU := hU.below b2
      replace q5 := q5.below b2
      replace q9 := q9.below b2
      clear b2
      cases ok
      · obtain ⟨rfl, rfl⟩ := bans_no HA.out
        clear HA hLL hHH hOO
        have g5_0 := q5.cell 0
        have g5_1 := q5.cell 1
        have g9_0 := q9.cell 0
        have g9_1 := q9.cell 1
        have g9_2 := q9.cell 2
        simp only [List.getElem?_cons_zero, List.getElem?_cons_succ] at g5_0 g5_1 g9_0 g9_1 g9_2
        go_wp2_with fail
        refine (coHolds_any _).mono ?_
        rintro ee w5 ⟨rfl, bh⟩
        clear g5_0 g5_1 g9_0 g9_1 g9_2
        replace BB := BB.trans (bh.mono BB.size)
        replace hB0 := hB0.below bh
        replace hB := hB.below bh
        replace hG := hG.below bh
        replace hP := hP.below bh
        replace hE := hE.below bh
        replace hF := hF.below bh
        replace hU := hU.below bh
        replace q5 := q5.below bh
        replace q9 := q9.below bh
        clear bh
        go_wp2
        go_ret
        exact ⟨rfl, BB⟩
      · obtain ⟨e1, e2, e3, e4, e5, e6, e7, e8⟩ := bans_yes HA.out
        subst e1
        subst e6
        obtain ⟨u, rfl⟩ := Int.eq_ofNat_of_zero_le e4
        clear hs0 hs2 e4 hbn hen
        have hug : u < gn := by omega
        have HE7 : Hid (bnd 10000 B) := e7
        have HE8 : Hid (bnd 20000 E) := e8
        clear e7 e8
        obtain ⟨i0, hi, hz0, hz1, hz2⟩ := info_parts Try.infoI
        have g5_0 := q5.cell 0
        have g5_1 := q5.cell 1
        have g9_0 := q9.cell 0
        have g9_1 := q9.cell 1
        have g9_2 := q9.cell 2
        simp only [List.getElem?_cons_zero, List.getElem?_cons_succ] at g5_0 g5_1 g9_0 g9_1 g9_2
        go_upto_region 10 with fail
        clear hLL hHH hOO
        clear g5_0 g5_1 g9_0 g9_1 g9_2
        obtain ⟨wb, hwb⟩ : ∃ x, x = w4 := ⟨_, rfl⟩
        rw [← hwb]
        rw [← hwb] at hB0 hB hG hP hE hF hU q5 q9 BB
        clear hwb
        have HEA : Hid (∀ b o, ea = some ⟨b, o, none⟩ → b < wb.heap.size) := fun b o e => by (have h := hE; rw [e] at h; exact h.blk (by omega))
        go_wp2_with fail
        go_loopw [17, 18] (fun v i wr => ∃ (k : Nat) (es : List IV) (G1 c1 : Nat), k ≤ gn ∧ i = .int .i64 k ∧ v = .slice (some ⟨G1, 0, none⟩) k c1 ∧ es.length = k ∧ JP wb G1 c1 es wr ∧ AddK es k u E) (fun _ i _ => gn - (intOf i).toNat)
        case atStart => exact ⟨0, [], _, _, by omega, rfl, rfl, rfl, JP.nil wb wb (Below.refl _ _), AddK.nil u E⟩
        case round =>
          obtain ⟨k, es, G1, c1, hk, rfl, rfl, hes, j, ak⟩ := hrel
          have HES : Hid (es.length = k) := hes
          clear hes
          have hb := j.b
          replace BB := BB.trans (hb.mono BB.size)
          replace hB0 := hB0.below hb
          replace hB := hB.below hb
          replace hG := hG.below hb
          replace hP := hP.below hb
          replace hE := hE.below hb
          replace hF := hF.below hb
          replace hU := hU.below hb
          replace q5 := q5.below hb
          replace q9 := q9.below hb
          clear hb
          by_cases hlt : k < gn
          · have hlt' : (k : Int) < (gn : Int) := by omega
            obtain ⟨wo, hwo⟩ : ∃ x, x = wr := ⟨_, rfl⟩
            rw [← hwo]
            rw [← hwo] at j hB0 hB hG hP hE hF hU q5 q9 BB
            clear hwo
            have JG : Hid (G1 < wo.heap.size) := j.lt.2
            have g5_0 := q5.cell 0
            have g5_1 := q5.cell 1
            have g9_0 := q9.cell 0
            have g9_1 := q9.cell 1
            have g9_2 := q9.cell 2
            simp only [List.getElem?_cons_zero, List.getElem?_cons_succ] at g5_0 g5_1 g9_0 g9_1 g9_2
            go_wp2_with fail
            clear g5_0 g5_1 g9_0 g9_1 g9_2
            go_loopw [19, 20] (fun x jx wx => ∃ (j2 xa : Nat) (xs : List Int), j2 ≤ 32 ∧ jx = .int .i64 j2 ∧ x = .slice (some ⟨xa, 0, none⟩) 3 3 ∧ Ints wx (some ⟨xa, 0, none⟩) 3 xs ∧ bnd 20 xs ∧ wo.heap.size ≤ xa ∧ Below wo.heap.size wo wx) (fun _ jx _ => 40 - (intOf jx).toNat)
            case atStart => exact ⟨0, _, _, by omega, rfl, rfl, lit3 (Cel.new wo _ _), bnd3 (by omega) (by omega) (by omega) (by omega), Nat.le_refl _, (Below.refl _ _).alloc (Nat.le_refl _) _⟩
            case round =>
              obtain ⟨j2, xa, xs, hj2, rfl, rfl, hX, bX, lX, hb⟩ := hrel
              have hb0 := hb
              have HBX : Hid (bnd 20 xs) := bX
              clear bX
              replace BB := BB.trans (hb.mono BB.size)
              replace hB0 := hB0.below hb
              replace hB := hB.below hb
              replace hG := hG.below hb
              replace hP := hP.below hb
              replace hE := hE.below hb
              replace hF := hF.below hb
              replace hU := hU.below hb
              replace q5 := q5.below hb
              replace q9 := q9.below hb
              clear hb
              go_upto_region 16 with fail
              go_cut [105] from 97 to 140 (fun v wx => v = .bool (decide (j2 + 2 < m) && decide (j2 < 30)) ∧ wx = wr)
              case first =>
                clear hB0 hB hG hP hE hF hU hX q5 q9 BB j
                by_cases h1 : j2 + 2 < m
                · have h1' : (j2 : Int) + 2 < (m : Int) := by omega
                  have HD1 : Hid (decide (j2 + 2 < m) = true) := decide_eq_true h1
                  by_cases h2 : j2 < 30
                  · have h2' : (j2 : Int) < 30 := by omega
                    have HD2 : Hid (decide (j2 < 30) = true) := decide_eq_true h2
                    go_wp2
                    go_meet
                    case rel => exact ⟨by rw [HD1.out, HD2.out]; rfl, rfl⟩
                  · have h2' : ¬ (j2 : Int) < 30 := by omega
                    have HD2 : Hid (decide (j2 < 30) = false) := decide_eq_false h2
                    go_wp2
                    go_meet
                    case rel => exact ⟨by rw [HD1.out, HD2.out]; rfl, rfl⟩
                · have h1' : ¬ (j2 : Int) + 2 < (m : Int) := by omega
                  have HD1 : Hid (decide (j2 + 2 < m) = false) := decide_eq_false h1
                  go_wp2
                  go_meet
                  case rel => exact ⟨by rw [HD1.out]; rfl, rfl⟩
              case rest =>
                obtain ⟨rfl, rfl⟩ := hcut
                cases hgo : (decide (j2 + 2 < m) && decide (j2 < 30))
                · clear hgo
                  replace j := j.below hb0
                  have jlt := j.lt
                  have j1 := j
                  clear j
                  by_cases hks : k = u
                  · have hks' : ((k : Int) == (u : Int)) = true := by rw [hks]; simp
                    clear hks hX
                    have hGx : ∀ b o, (ea : Option Addr) = some ⟨b, o, none⟩ → b ≠ G1 := fun b o e => by (have h := HEA.out b o e; have := jlt.1; omega)
                    have al := (Below.refl wc.heap.size wc).alloc (Nat.le_refl _) (.cells #[.slice ea 3 ec] 26)
                    have oj := own_below j1.o al
                    rw [HES.out] at oj
                    have hsz := (j1.below al).b.size
                    clear al
                    go_wp2_with (at_builtin; refine wpList_append_lies _ rfl (.tmp 145) (.tmp 147) 46 rfl wb.heap.size 26 i0 _ 1 24 Try.underlying46 hi hz0 hz1 hz2 rfl (by omega) (.slice (some ⟨G1, 0, none⟩) k c1) k (es.map IV.v) (by rfl) oj ⟨wc.heap.size, 0, none⟩ 1 1 [.slice ea 3 ec] (by rfl) (by rfl) (World.news_of_block (cs := #[.slice ea 3 ec]) (t := 26) (fr := (0, 0)) (heap_alloc_new wc _)) (by simp [Value.oneCell']) (by omega) (by unfold maxLen; omega) (by omega) hsz (wc.heap.size + 1) (by rw [World.size_alloc]) ?_)
                    intro g9 cp9 w9 hown hgrow hat9 _
                    have jn := j1.app (s := ⟨ea, 3, ec, E⟩) HES.out rfl hE hGx hown hgrow (by rcases hat9 with h | h; exact .inl (by simpa [Value.ownBlock] using h.symm); exact .inr (by omega))
                    clear hown hgrow j1 oj
                    go_wp2
                    go_roundw
                    case rel => exact ⟨k + 1, _, g9, cp9, by omega, by go_num, rfl, by rw [List.length_append, HES.out]; rfl, jn, ak.app HES.out HE8.out (fun _ => rfl)⟩
                    case measure => simp [intOf]; omega
                  · have hks' : ((k : Int) == (u : Int)) = false := by simp; omega
                    have hGx : ∀ b o, ((some ⟨xa, 0, none⟩) : Option Addr) = some ⟨b, o, none⟩ → b ≠ G1 := fun b o e => by (have e' : (some ⟨xa, 0, none⟩ : Option Addr) = some ⟨b, o, none⟩ := e; simp only [Option.some.injEq, Addr.mk.injEq] at e'; have := JG.out; omega)
                    have al := (Below.refl wc.heap.size wc).alloc (Nat.le_refl _) (.cells #[.slice (some ⟨xa, 0, none⟩) 3 3] 26)
                    have oj := own_below j1.o al
                    rw [HES.out] at oj
                    have hsz := (j1.below al).b.size
                    clear al
                    go_wp2_with (at_builtin; refine wpList_append_lies _ rfl (.tmp 145) (.tmp 147) 46 rfl wb.heap.size 26 i0 _ 1 24 Try.underlying46 hi hz0 hz1 hz2 rfl (by omega) (.slice (some ⟨G1, 0, none⟩) k c1) k (es.map IV.v) (by rfl) oj ⟨wc.heap.size, 0, none⟩ 1 1 [.slice (some ⟨xa, 0, none⟩) 3 3] (by rfl) (by rfl) (World.news_of_block (cs := #[.slice (some ⟨xa, 0, none⟩) 3 3]) (t := 26) (fr := (0, 0)) (heap_alloc_new wc _)) (by simp [Value.oneCell']) (by omega) (by unfold maxLen; omega) (by omega) hsz (wc.heap.size + 1) (by rw [World.size_alloc]) ?_)
                    intro g9 cp9 w9 hown hgrow hat9 _
                    have jn := j1.app (s := ⟨(some ⟨xa, 0, none⟩), 3, 3, xs⟩) HES.out rfl hX hGx hown hgrow (by rcases hat9 with h | h; exact .inl (by simpa [Value.ownBlock] using h.symm); exact .inr (by omega))
                    clear hown hgrow j1 oj
                    go_wp2
                    go_roundw
                    case rel => exact ⟨k + 1, _, g9, cp9, by omega, by go_num, rfl, by rw [List.length_append, HES.out]; rfl, jn, ak.app HES.out (bnd_up HBX.out (by omega)) (fun h => absurd h hks)⟩
                    case measure => simp [intOf]; omega
                · have hg2 : j2 + 2 < m ∧ j2 < 30 := by simpa using hgo
                  obtain ⟨hg2, hg3⟩ := hg2
                  clear hgo
                  obtain ⟨mb, mo, rfl, hcm⟩ := hB0.pos (by omega)
                  have d0 := hcm j2 (by omega)
                  have d1 := hcm (j2 + 1) (by omega)
                  have d2 := hcm (j2 + 2) (by omega)
                  have v0 := hB0.2.2 j2
                  have v1 := hB0.2.2 (j2 + 1)
                  have v2 := hB0.2.2 (j2 + 2)
                  clear hcm
                  obtain ⟨q0, hq0⟩ : ∃ q, q = B0.getD j2 0 := ⟨_, rfl⟩
                  obtain ⟨q1, hq1⟩ : ∃ q, q = B0.getD (j2 + 1) 0 := ⟨_, rfl⟩
                  obtain ⟨q2, hq2⟩ : ∃ q, q = B0.getD (j2 + 2) 0 := ⟨_, rfl⟩
                  rw [← hq0] at d0
                  rw [← hq1] at d1
                  rw [← hq2] at d2
                  rw [← List.getD_eq_getElem?_getD, ← hq0] at v0
                  rw [← List.getD_eq_getElem?_getD, ← hq1] at v1
                  rw [← List.getD_eq_getElem?_getD, ← hq2] at v2
                  clear hq0 hq1 hq2
                  have a1 : (j2 : Int) < (m : Int) := by omega
                  have a2 : (j2 : Int) + 1 < (m : Int) := by omega
                  have a3 : (j2 : Int) + 2 < (m : Int) := by omega
                  go_upto_region 18 with fail
                  go_cut [21] from 97 to 140 (fun v wx => ∃ (y0 y1 y2 : Int) (Y : Nat), v = .slice (some ⟨Y, 0, none⟩) 3 3 ∧ Cel wx Y [.int .i64 y0, .int .i64 y1, .int .i64 y2] 3 ∧ (-20 ≤ y0 ∧ y0 ≤ 20) ∧ (-20 ≤ y1 ∧ y1 ≤ 20) ∧ (-20 ≤ y2 ∧ y2 ≤ 20) ∧ wc.heap.size ≤ Y ∧ Below wc.heap.size wc wx)
                  case first =>
                    clear hB0 hB hG hP hE hF hU hX q5 q9 BB j
                    have i1 : IntKind.i64.wrap ((j2 : Int) + 1) = (j2 : Int) + 1 := wrap_id (by omega) (by omega)
                    have i2 : IntKind.i64.wrap ((j2 : Int) + 2) = (j2 : Int) + 2 := wrap_id (by omega) (by omega)
                    have n1 : ((j2 : Int) + 1).toNat = j2 + 1 := by omega
                    have n2 : ((j2 : Int) + 2).toNat = j2 + 2 := by omega
                    have p1 : 0 ≤ (j2 : Int) + 1 := by omega
                    have p2 : 0 ≤ (j2 : Int) + 2 := by omega
                    refine wp_region_ends (fun X => X.cell? ⟨mb, mo + j2, none⟩ = some (.int .u8 q0) ∧ X.cell? ⟨mb, mo + (j2 + 1), none⟩ = some (.int .u8 q1) ∧ X.cell? ⟨mb, mo + (j2 + 2), none⟩ = some (.int .u8 q2)) (fun _ => True) 28 (by kernel_rfl) ?_
                    have dr : Below wc.heap.size wc wc.drew := (Below.refl _ _).drew
                    have hSS : (fun X : World => X.cell? ⟨mb, mo + j2, none⟩ = some (.int .u8 q0) ∧ X.cell? ⟨mb, mo + (j2 + 1), none⟩ = some (.int .u8 q1) ∧ X.cell? ⟨mb, mo + (j2 + 2), none⟩ = some (.int .u8 q2)) wc.drew ∧ True := ⟨⟨d0, d1, d2⟩, trivial⟩
                    obtain ⟨V, hV⟩ : ∃ V, V = wc.drew := ⟨_, rfl⟩
                    rw [← hV]
                    rw [← hV] at hSS dr
                    clear hV d0 d1 d2
                    refine tkL (i := 0) rfl hSS ?_
                    refine tkL (i := 1) rfl hSS ?_
                    refine tkL (i := 2) rfl hSS ?_
                    simp only [Act.put, List.setIfInBounds_toArray, List.set_cons_succ, List.set_cons_zero, List.getElem_toArray, List.getElem_cons_succ, List.getElem_cons_zero]
                    refine tkL (i := 3) rfl hSS ?_
                    refine tkL (i := 4) rfl hSS ?_
                    refine tkL (i := 5) rfl hSS ?_
                    simp only [Act.put, List.setIfInBounds_toArray, List.set_cons_succ, List.set_cons_zero, List.getElem_toArray, List.getElem_cons_succ, List.getElem_cons_zero]
                    refine tkL (i := 6) rfl hSS ?_
                    refine tkL (i := 7) rfl hSS ?_
                    refine tkL (i := 8) rfl hSS ?_
                    simp only [Act.put, List.setIfInBounds_toArray, List.set_cons_succ, List.set_cons_zero, List.getElem_toArray, List.getElem_cons_succ, List.getElem_cons_zero]
                    refine tkL (i := 9) rfl hSS ?_
                    refine tkL (i := 10) rfl hSS ?_
                    refine tkL (i := 11) rfl hSS ?_
                    simp only [Act.put, List.setIfInBounds_toArray, List.set_cons_succ, List.set_cons_zero, List.getElem_toArray, List.getElem_cons_succ, List.getElem_cons_zero]
                    refine tkL (i := 12) rfl hSS ?_
                    refine tkL (i := 13) rfl hSS ?_
                    refine tkL (i := 14) rfl hSS ?_
                    simp only [Act.put, List.setIfInBounds_toArray, List.set_cons_succ, List.set_cons_zero, List.getElem_toArray, List.getElem_cons_succ, List.getElem_cons_zero]
                    refine tkL (i := 15) rfl hSS ?_
                    refine tkL (i := 16) rfl hSS ?_
                    refine tkL (i := 17) rfl hSS ?_
                    simp only [Act.put, List.setIfInBounds_toArray, List.set_cons_succ, List.set_cons_zero, List.getElem_toArray, List.getElem_cons_succ, List.getElem_cons_zero]
                    refine tkL (i := 18) rfl hSS ?_
                    refine tkL (i := 19) rfl hSS ?_
                    refine tkL (i := 20) rfl hSS ?_
                    simp only [Act.put, List.setIfInBounds_toArray, List.set_cons_succ, List.set_cons_zero, List.getElem_toArray, List.getElem_cons_succ, List.getElem_cons_zero]
                    refine tkL (i := 21) rfl hSS ?_
                    refine tkL (i := 22) rfl hSS ?_
                    refine tkL (i := 23) rfl hSS ?_
                    simp only [Act.put, List.setIfInBounds_toArray, List.set_cons_succ, List.set_cons_zero, List.getElem_toArray, List.getElem_cons_succ, List.getElem_cons_zero]
                    refine tkL (i := 24) rfl hSS ?_
                    refine tkL (i := 25) rfl hSS ?_
                    refine wpAnyE_one (i := 26) (by kernel_rfl) rfl (fun Kn hK => ?_)
                    go_simp
                    refine hK.out _ _ ⟨⟨cellA _ hSS.1.1, cellA _ hSS.1.2.1, cellA _ hSS.1.2.2⟩, fun _ => trivial⟩ ?_
                    clear hK
                    refine wpAnyE_one (i := 27) (by kernel_rfl) rfl (fun Kn hK => ?_)
                    go_simp
                    refine hK.out _ _ ⟨⟨cellA _ hSS.1.1, cellA _ hSS.1.2.1, cellA _ hSS.1.2.2⟩, fun _ => trivial⟩ ?_
                    clear hK
                    refine wpAnyE_done (by kernel_rfl) ?_ _
                    have zd := dr.size
                    go_wp2_with fail
                    go_meet
                    case rel => exact ⟨_, _, _, _, rfl, Cel.new V _ _, wt (by omega) (by omega) (by omega) (by omega), wt (by omega) (by omega) (by omega) (by omega), wt (by omega) (by omega) (by omega) (by omega), zd, dr.alloc zd _⟩
                  case rest =>
                    obtain ⟨y0, y1, y2, Y, rfl, cY, hy0, hy1, hy2, lY, b7⟩ := hcut
                    have hY := lit3 cY
                    have hYl := Nat.le_trans hb0.size lY
                    clear cY lY d0 d1 d2
                    replace BB := BB.trans (b7.mono BB.size)
                    replace hb0 := hb0.trans (b7.mono hb0.size)
                    replace hB0 := hB0.below b7
                    replace hB := hB.below b7
                    replace hG := hG.below b7
                    replace hP := hP.below b7
                    replace hE := hE.below b7
                    replace hF := hF.below b7
                    replace hU := hU.below b7
                    replace hX := hX.below b7
                    replace q5 := q5.below b7
                    replace q9 := q9.below b7
                    clear b7
                    have g5_0 := q5.cell 0
                    have g5_1 := q5.cell 1
                    have g9_0 := q9.cell 0
                    have g9_1 := q9.cell 1
                    have g9_2 := q9.cell 2
                    simp only [List.getElem?_cons_zero, List.getElem?_cons_succ] at g5_0 g5_1 g9_0 g9_1 g9_2
                    go_wp2_with fail
                    refine (ikeep_any _ _ _ _ _ _ _ _ _ (k : Int) _ _ _ B G [y0, y1, y2] ts _ hB hG hY HP.out hP (by omega) (by omega) (by omega) (by omega)).mono ?_
                    rintro ee w5 ⟨rfl, b8⟩
                    clear g5_0 g5_1 g9_0 g9_1 g9_2
                    replace BB := BB.trans (b8.mono BB.size)
                    replace hb0 := hb0.trans (b8.mono hb0.size)
                    replace hB0 := hB0.below b8
                    replace hB := hB.below b8
                    replace hG := hG.below b8
                    replace hP := hP.below b8
                    replace hE := hE.below b8
                    replace hF := hF.below b8
                    replace hU := hU.below b8
                    replace hX := hX.below b8
                    replace hY := hY.below b8
                    replace q5 := q5.below b8
                    replace q9 := q9.below b8
                    clear b8
                    cases hkk : keepB 3 gn B G ts (k : Int) 3 [y0, y1, y2]
                    · clear hkk hB0 hB hG hP hE hF hU hY q5 q9
                      go_wp2
                      go_roundw
                      case rel => exact ⟨j2 + 3, xa, xs, by omega, by go_num, rfl, hX, HBX.out, lX, hb0⟩
                      case measure => simp [intOf]; omega
                    · clear hkk hB0 hB hG hP hE hF hU hX q5 q9
                      go_wp2
                      go_roundw
                      case rel => exact ⟨j2 + 3, Y, _, by omega, by go_num, rfl, hY, bnd3 (by omega) hy0 hy1 hy2, hYl, hb0⟩
                      case measure => simp [intOf]; omega
          · obtain rfl : k = gn := by omega
            have hlt' : ¬ (k : Int) < (k : Int) := by omega
            have hES := j.g
            have H3 : Hid (∀ i, i < k → (es[i]?.getD noI).n = 3) := fun i hi => (j.k i (by rw [HES.out]; exact hi)).1
            have HX3 : Hid (∀ i, i < k → (es[i]?.getD noI).x.length = 3) := fun i hi => (j.k i (by rw [HES.out]; exact hi)).2.1.1
            have HLn : Hid (B.length = 3 ∧ G.length = k ∧ E.length = 3 ∧ F.1.length = fn) := ⟨hB.1, hG.1, hE.1, hF.C.1⟩
            have HBA : Hid _ := bounds_all HLn.out.1 HLn.out.2.1 HLn.out.2.2.1 HLn.out.2.2.2 HES.out HX3.out hug (ak.2 hug) HA.out
            clear j
            have g5_0 := q5.cell 0
            have g5_1 := q5.cell 1
            have g9_0 := q9.cell 0
            have g9_1 := q9.cell 1
            have g9_2 := q9.cell 2
            simp only [List.getElem?_cons_zero, List.getElem?_cons_succ] at g5_0 g5_1 g9_0 g9_1 g9_2
            go_wp2_with fail
            refine (cosum_any _ _ B _ _ _ es _ hB hES HES.out (by omega) H3.out HE7.out ak.1).mono ?_
            rintro ee w5 ⟨vg, vc, rfl, hV, b4⟩
            clear g5_0 g5_1 g9_0 g9_1 g9_2
            replace BB := BB.trans (b4.mono BB.size)
            replace hB0 := hB0.below b4
            replace hB := hB.below b4
            replace hG := hG.below b4
            replace hP := hP.below b4
            replace hE := hE.below b4
            replace hF := hF.below b4
            replace hU := hU.below b4
            replace hES := hES.below b4
            replace q5 := q5.below b4
            replace q9 := q9.below b4
            clear b4
            have g5_0 := q5.cell 0
            have g5_1 := q5.cell 1
            have g9_0 := q9.cell 0
            have g9_1 := q9.cell 1
            have g9_2 := q9.cell 2
            simp only [List.getElem?_cons_zero, List.getElem?_cons_succ] at g5_0 g5_1 g9_0 g9_1 g9_2
            go_wp2_with fail
            refine (pAt F (sumT B es k) U _ _ _ _ _ _ _ _ _ _ _ _ _ hF hV hU (by omega) (by omega)).mono ?_
            rintro ee w6 ⟨rfl, b5⟩
            clear g5_0 g5_1 g9_0 g9_1 g9_2
            replace BB := BB.trans (b5.mono BB.size)
            replace hB0 := hB0.below b5
            replace hB := hB.below b5
            replace hG := hG.below b5
            replace hP := hP.below b5
            replace hE := hE.below b5
            replace hF := hF.below b5
            replace hU := hU.below b5
            replace hES := hES.below b5
            replace hV := hV.below b5
            replace q5 := q5.below b5
            replace q9 := q9.below b5
            clear b5
            obtain ⟨hlh, himp⟩ := HBA.out
            have HI : Hid _ := himp
            clear himp
            have g5_0 := q5.cell 0
            have g5_1 := q5.cell 1
            have g9_0 := q9.cell 0
            have g9_1 := q9.cell 1
            have g9_2 := q9.cell 2
            simp only [List.getElem?_cons_zero, List.getElem?_cons_succ] at g5_0 g5_1 g9_0 g9_1 g9_2
            go_wp2_with fail
            refine (iall_any _ _ _ _ _ _ _ _ _ _ _ _ B G ts es _ hB hG HP.out hP HES.out hES (by omega) (by omega) (by omega) (by omega)).mono ?_
            rintro ee w7 ⟨rfl, b6⟩
            clear g5_0 g5_1 g9_0 g9_1 g9_2
            replace BB := BB.trans (b6.mono BB.size)
            replace hB0 := hB0.below b6
            replace hB := hB.below b6
            replace hG := hG.below b6
            replace hP := hP.below b6
            replace hE := hE.below b6
            replace hF := hF.below b6
            replace hU := hU.below b6
            replace hES := hES.below b6
            replace hV := hV.below b6
            replace q5 := q5.below b6
            replace q9 := q9.below b6
            clear b6
            cases hq : allKeepB 3 k B G ts es k
            · clear hq
              have g5_0 := q5.cell 0
              have g5_1 := q5.cell 1
              have g9_0 := q9.cell 0
              have g9_1 := q9.cell 1
              have g9_2 := q9.cell 2
              simp only [List.getElem?_cons_zero, List.getElem?_cons_succ] at g5_0 g5_1 g9_0 g9_1 g9_2
              go_wp2
              go_ret
              exact ⟨rfl, BB⟩
            · cases hfi : atB F (sumT B es k) U
              · clear hq
                have g5_0 := q5.cell 0
                have g5_1 := q5.cell 1
                have g9_0 := q9.cell 0
                have g9_1 := q9.cell 1
                have g9_2 := q9.cell 2
                simp only [List.getElem?_cons_zero, List.getElem?_cons_succ] at g5_0 g5_1 g9_0 g9_1 g9_2
                go_wp2
                go_ret
                exact ⟨rfl, BB⟩
              · have hat : atP F (sumT B es k) U = atV F.1 F.2.1 F.2.2 (sumT B es k) U := atN_yes hfi
                have hx := HI.out hq
                rw [← hat] at hx
                obtain ⟨hx1, hx2⟩ := hx
                clear hat hq
                have g5_0 := q5.cell 0
                have g5_1 := q5.cell 1
                have g9_0 := q9.cell 0
                have g9_1 := q9.cell 1
                have g9_2 := q9.cell 2
                simp only [List.getElem?_cons_zero, List.getElem?_cons_succ] at g5_0 g5_1 g9_0 g9_1 g9_2
                go_wp2
                go_ret
                exact ⟨rfl, BB⟩
    · go_enter Try.func7, Try.ntmps7
      go_wp2
      go_ret
      exact ⟨rfl, Below.refl _ _⟩
  · go_enter Try.func7, Try.ntmps7
    go_wp2
    go_ret
    exact ⟨rfl, Below.refl _ _⟩

/-! ### The row's step -/
set_option maxRecDepth 100000 in
theorem lifted (os : Os) (started : os.Started) (H : Type) (enc : TypeId × Value → H) :
    ReturnsInHanded {} Try.checked os 7 .any (Rows.fnTrtBoundsSpec.pre6 enc Try.prog Try.f7 Rows.fnTrtBoundsRow.domain false) (Rows.fnTrtBoundsSpec.post enc Try.prog Try.f7 false true false false) := by
  refine returnsInHanded_of_change (C := Try.checked) own started (by kernel_rfl) Try.func7
    (ChangeSpec.witness6 (enc := enc) (C := Try.checked) false ⟨#[], #[.slice none 0 0, .slice none 0 0], []⟩ 8 (by kernel_rfl) (by kernel_rfl) (by kernel_rfl) (by kernel_rfl)) ?_
  intro W base args ds gs before hval0 hW hcnd _
  have hval : ∀ (j : Nat) t v, Try.f7.params[j]? = some t → args[j]? = some v → Value.okWide Try.prog W .any base t v := hval0
  have hW' := hW
  obtain ⟨p, q, hA0, hV, rfl, hfz, hnd⟩ := hW
  have hA : DataW.TrodAll enc Try.prog W 0 (fun _ => true) true Try.f7.params.toList args.toList ds p := hA0
  rw [Try.params7] at hA hval
  obtain ⟨v0, vs0, d0, ds0, p0, q0, hargs, rfl, rfl, h0, r0⟩ := trodAll_cons hA
  obtain ⟨v1, vs1, d1, ds1, p1, q1, rfl, rfl, rfl, h1, r1⟩ := trodAll_cons r0
  obtain ⟨rfl, rfl, rfl⟩ := trodAll_nil r1
  obtain rfl : args = #[v0, v1] := by cases args; simp_all
  obtain ⟨rfl, rfl⟩ := trodVars_none hV
  have k0 := h0
  have lt0 : ∀ x ∈ p0, x.block < W.heap.size := by obtain ⟨m, hm⟩ := k0; exact DataW.trod_lt m _ _ _ hm
  obtain ⟨a0, n0, cap0, C0, rfl, hC0, hn0⟩ := open_bytesT (hval 0 22 v0 rfl rfl) h0
  have k1 := h1
  have lt1 : ∀ x ∈ p1, x.block < W.heap.size := by obtain ⟨m, hm⟩ := k1; exact DataW.trod_lt m _ _ _ hm
  obtain ⟨a1, n1, cap1, C1, rfl, hC1, hn1⟩ := open_bytesT (hval 1 22 v1 rfl rfl) h1
  clear hA0 hval0
  refine (walk W a0 n0 cap0 C0 hC0 hn0 a1 n1 cap1 C1 hC1 hn1).mono fun e W' ⟨he, bel⟩ => ?_
  subst he
  exact ⟨_, rfl, _, _, _, [], _, [], hW', trodAll_mk1 (shut_bool Try.underlying4 _), (trodAll_cons_mk (Below.trod laidOut (by kernel_rfl) (of_decide_eq_true (by kernel_rfl)) k0 bel lt0) (trodAll_cons_mk (Below.trod laidOut (by kernel_rfl) (of_decide_eq_true (by kernel_rfl)) k1 bel lt1) trodAll_mk0)), rfl, bel.frame _, fun h => by cases h⟩

theorem over : Rows.fnTrtBoundsRow.holds Try.pinned (OpenSpec.ofChange Rows.fnTrtBoundsSpec) :=
  OpenClaim.holds_of_wide 7 Try.f7 rfl rfl rfl rfl rfl rfl rfl ⟨rfl, rfl, rfl, rfl, rfl⟩ rfl rfl rfl rfl rfl (by kernel_rfl) Try.func7 (by kernel_rfl)
    (of_decide_eq_true (by kernel_rfl)) (by unfold Func.isWrapper; first | (rw [if_pos (by decide +kernel)]; kernel_rfl) | (rw [if_neg (by decide +kernel)]; exact ⟨rfl, rfl⟩))
    (fun os started H enc _ => lifted os started H enc)

end Go.Proofs.Ytpnldfembbfgdaa.fnTrtBounds
namespace Go.Proofs.Ytpnldfembbfgdaa
/-- The statement. -/
theorem fnTrtBounds_holds : Rows.FnTrtBoundsSaid := fnTrtBounds.over
#print axioms fnTrtBounds_holds
end Go.Proofs.Ytpnldfembbfgdaa
