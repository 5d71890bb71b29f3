/-
  Whether all keep within a treaty: both texts answer it. Lengths at most 1048576.
-/
import Derived.Test.YtmbhcngddpoonaaKeepsS
namespace Go.Proofs.Ytmbhcngddpoonaa
open Go.RowKit Go.Deep
set_option linter.unusedVariables false

/-- The first k sites keep within a treaty. -/
def keepAll (n m : Nat) (C D : List Int) (ss ls : List IV) : Nat → Bool
  | 0 => true
  | k + 1 => keepAll n m C D ss ls k && keepB n m C D ss (k : Int) (ls[k]?.getD noI).n (ls[k]?.getD noI).x
theorem keepAll_false {n m : Nat} {C D : List Int} {ss ls : List IV} {k : Nat} (h : keepB n m C D ss (k : Int) (ls[k]?.getD noI).n (ls[k]?.getD noI).x = false) : ∀ N, k < N → keepAll n m C D ss ls N = false
  | 0, hN => by omega
  | N + 1, hN => by
    by_cases e : k = N
    · subst e; simp [keepAll, h]
    · rw [keepAll, keepAll_false h N (by omega)]; rfl
/-- Whether all keep within a treaty. -/
def allKeepB (n m : Nat) (C D : List Int) (ss ls : List IV) (L : Nat) : Bool := trtB n m C D && (decide ((L : Int) = m) && keepAll n m C D ss ls L)
theorem keepAll_copy {n m : Nat} {C D : List Int} {ss ts ls us : List IV} (hl : ts.length = ss.length) (h : copiesIS ss ts) (h' : copiesIS ls us) : ∀ N, N ≤ us.length → keepAll n m C D ts us N = keepAll n m C D ss ls N
  | 0, _ => rfl
  | N + 1, hN => by
    have c := h' N (by omega)
    rw [keepAll, keepAll, keepAll_copy hl h h' N (by omega), keepB_copy hl h, c.1, c.2]
theorem allKeepB_copy {n m : Nat} {C D : List Int} {ss ts ls us : List IV} {L : Nat} (hl : ts.length = ss.length) (h : copiesIS ss ts) (h' : copiesIS ls us) (hu : us.length = L) : allKeepB n m C D ts us L = allKeepB n m C D ss ls L := by
  rw [allKeepB, allKeepB, keepAll_copy hl h h' L (by omega)]

set_option maxHeartbeats 3200000 in
theorem sall_any (a : Option Addr) (n cap : Nat) (c : Option Addr) (m cap' : Nat) (ad : Option Addr) (N pc : Nat) (e : Option Addr) (L ec : Nat) (C D : List Int) (ss ls : List IV) (w : World)
    (hC : Ints w a n C) (hD : Ints w c m D) (hN : ss.length = N) (hF : ISG w ad ss) (hL : ls.length = L) (hE : ISG w e ls) (hn : n ≤ 1048576) (hm : m ≤ 1048576) (hN1 : N ≤ 1048576) (hL1 : L ≤ 1048576) :
    Calls Try.prog 23 #[treV a n cap c m cap', .slice ad N pc, .slice e L ec] w fun r w' => r = .returned (.bool (allKeepB n m C D ss ls L)) ∧ Below w.heap.size w w' := by
  have HN : Hid (ss.length = N) := hN
  have HL : Hid (ls.length = L) := hL
  clear hN hL
  have b0 := (Below.refl w.heap.size w).alloc (Nat.le_refl _) (.cells #[.slice a n cap, .slice c m cap'] 27)
  have q0 := Cel.new w [.slice a n cap, .slice c m cap'] 27
  cases h1 : trtB n m C D
  · go_enter Try.func23, Try.ntmps23
    go_wp2_with fail
    refine (strt_any _ _ _ _ _ _ C D _ (hC.below b0) (hD.below b0) hn hm).mono ?_
    rintro r w1 ⟨rfl, b1⟩
    have B1 := b0.trans (b1.mono b0.size)
    rw [h1]
    go_wp2
    go_ret
    exact ⟨ret_bool (by simp [allKeepB, h1]), B1⟩
  have H1 : Hid _ := h1
  clear h1
  by_cases h2 : (L : Int) = m
  · have h2' : ((L : Int) != (m : Int)) = false := by simp [h2]
    have H2 : Hid ((L : Int) = m) := h2
    clear h2
    go_enter Try.func23, Try.ntmps23
    go_wp2_with fail
    refine (strt_any _ _ _ _ _ _ C D _ (hC.below b0) (hD.below b0) hn hm).mono ?_
    rintro r w1 ⟨rfl, b1⟩
    have B1 := b0.trans (b1.mono b0.size)
    have q1 := q0.below b1
    obtain ⟨c0, c1⟩ := q1.two
    rw [H1.out]
    clear b1 b0 q0
    go_wp2_with fail
    go_loopw [7] (fun i wr => ∃ k : Nat, k ≤ L ∧ i = .int .i64 k ∧ Below w.heap.size w wr ∧ Cel wr w.heap.size [.slice a n cap, .slice c m cap'] 27 ∧ keepAll n m C D ss ls k = true) (fun i _ => L - (intOf i).toNat)
    case atStart => exact ⟨0, Nat.zero_le _, rfl, B1, q1, rfl⟩
    case round =>
      clear c0 c1 B1 q1
      obtain ⟨j, hj, rfl, hb, q1, hall⟩ := hrel
      have HA : Hid _ := hall
      clear hall
      by_cases hlt : j < L
      · obtain ⟨b2, off2, rfl, hc, hr⟩ := (hE.below hb) j (by rw [HL.out]; exact hlt)
        have HK : Hid (keepAll n m C D ss ls (j + 1) = (keepAll n m C D ss ls j && keepB n m C D ss (j : Int) (ls[j]?.getD noI).n (ls[j]?.getD noI).x)) := rfl
        have HF : Hid _ := keepAll_false (n := n) (m := m) (C := C) (D := D) (ss := ss) (ls := ls) (k := j)
        generalize HG : ls[j]?.getD noI = p at *
        clear HG hE
        obtain ⟨ga, gn, gcap, gx⟩ := p
        have hc' : wr.cell? ⟨b2, off2 + j, none⟩ = some (.slice ga gn gcap) := hc
        have hr1 : Ints wr ga gn gx := hr.1
        have hr2 : gn ≤ 1048576 := hr.2
        have HK' : Hid (keepAll n m C D ss ls (j + 1) = (keepAll n m C D ss ls j && keepB n m C D ss (j : Int) gn gx)) := HK
        have HF' : Hid (keepB n m C D ss (j : Int) gn gx = false → ∀ N, j < N → keepAll n m C D ss ls N = false) := HF
        obtain ⟨c0, c1⟩ := q1.two
        have hC1 := hC.below hb
        have hD1 := hD.below hb
        have hF1 := hF.below hb
        clear hc hr HK HF hC hD hF
        have hlt' : (j : Int) < (L : Int) := by omega
        go_wp2_with fail
        go_region_with (first | (go_at_call 17; refine (skeep_any _ _ _ _ _ _ _ _ _ _ _ _ _ C D gx ss _ (by exact hC1.below (Below.refl _ _).drew) (by exact hD1.below (Below.refl _ _).drew) (by exact hr1.below (Below.refl _ _).drew) HN.out (by exact hF1.below (Below.refl _ _).drew) hn hm hr2 hN1).mono ?_; rintro ee w3 ⟨rfl, b3⟩; have b3' := below_of_drew b3))
        all_goals
          have q3 := q1.below b3'
          have hb2 := hb.trans (b3'.mono hb.size)
          cases he : keepB n m C D ss (j : Int) gn gx
          · go_wp2
            go_ret
            exact ⟨ret_bool (by rw [allKeepB, HF'.out he L hlt]; simp), hb2⟩
          · go_wp2
            go_roundw
            case rel => exact ⟨j + 1, by omega, by go_num, hb2, q3, by rw [HK'.out, HA.out, he]; rfl⟩
            case measure => simp [intOf]; omega
      · obtain rfl : j = L := by omega
        go_wp2
        go_ret
        exact ⟨ret_bool (by rw [allKeepB, H1.out, decide_eq_true H2.out, HA.out]; rfl), hb⟩
  · have h2' : ((L : Int) != (m : Int)) = true := by simp [h2]
    have H2 : Hid (¬ (L : Int) = m) := h2
    clear h2
    go_enter Try.func23, Try.ntmps23
    go_wp2_with fail
    refine (strt_any _ _ _ _ _ _ C D _ (hC.below b0) (hD.below b0) hn hm).mono ?_
    rintro r w1 ⟨rfl, b1⟩
    have B1 := b0.trans (b1.mono b0.size)
    have q1 := q0.below b1
    obtain ⟨c0, c1⟩ := q1.two
    rw [H1.out]
    go_wp2
    go_ret
    exact ⟨ret_bool (by rw [allKeepB, decide_eq_false H2.out]; simp), B1⟩

set_option maxHeartbeats 3200000 in
theorem iall_any (a : Option Addr) (n cap : Nat) (c : Option Addr) (m cap' : Nat) (ad : Option Addr) (N pc : Nat) (e : Option Addr) (L ec : Nat) (C D : List Int) (ss ls : List IV) (w : World)
    (hC : Ints w a n C) (hD : Ints w c m D) (hN : ss.length = N) (hF : ISG w ad ss) (hL : ls.length = L) (hE : ISG w e ls) (hn : n ≤ 1048576) (hm : m ≤ 1048576) (hN1 : N ≤ 1048576) (hL1 : L ≤ 1048576) :
    Calls Try.prog 24 #[treV a n cap c m cap', .slice ad N pc, .slice e L ec] w fun r w' => r = .returned (.bool (allKeepB n m C D ss ls L)) ∧ Below w.heap.size w w' := by
  have HN : Hid (ss.length = N) := hN
  have HL : Hid (ls.length = L) := hL
  clear hN hL
  have b0 := (Below.refl w.heap.size w).alloc (Nat.le_refl _) (.cells #[.slice a n cap, .slice c m cap'] 27)
  have q0 := Cel.new w [.slice a n cap, .slice c m cap'] 27
  cases h1 : trtB n m C D
  · go_enter Try.func24, Try.ntmps24
    go_wp2_with fail
    refine (itrt_any _ _ _ _ _ _ C D _ (hC.below b0) (hD.below b0) hn hm).mono ?_
    rintro r w1 ⟨rfl, b1⟩
    have B1 := b0.trans (b1.mono b0.size)
    rw [h1]
    go_wp2
    go_ret
    exact ⟨ret_bool (by simp [allKeepB, h1]), B1⟩
  have H1 : Hid _ := h1
  clear h1
  by_cases h2 : (L : Int) = m
  · have h2' : ((L : Int) != (m : Int)) = false := by simp [h2]
    have H2 : Hid ((L : Int) = m) := h2
    clear h2
    go_enter Try.func24, Try.ntmps24
    go_wp2_with fail
    refine (itrt_any _ _ _ _ _ _ C D _ (hC.below b0) (hD.below b0) hn hm).mono ?_
    rintro r w1 ⟨rfl, b1⟩
    have B1 := b0.trans (b1.mono b0.size)
    have q1 := q0.below b1
    obtain ⟨c0, c1⟩ := q1.two
    rw [H1.out]
    clear b1 b0 q0
    go_wp2_with fail
    go_loopw [7, 8, 22] (fun _ _ i wr => ∃ k : Nat, k ≤ L ∧ i = .int .i64 k ∧ Below w.heap.size w wr ∧ Cel wr w.heap.size [.slice a n cap, .slice c m cap'] 27 ∧ keepAll n m C D ss ls k = true) (fun _ _ i _ => L - (intOf i).toNat)
    case atStart => exact ⟨0, Nat.zero_le _, rfl, B1, q1, rfl⟩
    case round =>
      clear c0 c1 B1 q1
      obtain ⟨j, hj, rfl, hb, q1, hall⟩ := hrel
      have HA : Hid _ := hall
      clear hall
      by_cases hlt : j < L
      · obtain ⟨b2, off2, rfl, hc, hr⟩ := (hE.below hb) j (by rw [HL.out]; exact hlt)
        have HK : Hid (keepAll n m C D ss ls (j + 1) = (keepAll n m C D ss ls j && keepB n m C D ss (j : Int) (ls[j]?.getD noI).n (ls[j]?.getD noI).x)) := rfl
        have HF : Hid _ := keepAll_false (n := n) (m := m) (C := C) (D := D) (ss := ss) (ls := ls) (k := j)
        generalize HG : ls[j]?.getD noI = p at *
        clear HG hE
        obtain ⟨ga, gn, gcap, gx⟩ := p
        have hc' : wr.cell? ⟨b2, off2 + j, none⟩ = some (.slice ga gn gcap) := hc
        have hr1 : Ints wr ga gn gx := hr.1
        have hr2 : gn ≤ 1048576 := hr.2
        have HK' : Hid (keepAll n m C D ss ls (j + 1) = (keepAll n m C D ss ls j && keepB n m C D ss (j : Int) gn gx)) := HK
        have HF' : Hid (keepB n m C D ss (j : Int) gn gx = false → ∀ N, j < N → keepAll n m C D ss ls N = false) := HF
        obtain ⟨c0, c1⟩ := q1.two
        have hC1 := hC.below hb
        have hD1 := hD.below hb
        have hF1 := hF.below hb
        clear hc hr HK HF hC hD hF
        have hlt' : (j : Int) < (L : Int) := by omega
        go_wp2_with fail
        refine (ikeep_any _ _ _ _ _ _ _ _ _ _ _ _ _ C D gx ss _ hC1 hD1 hr1 HN.out hF1 hn hm hr2 hN1).mono ?_
        rintro ee w3 ⟨rfl, b3⟩
        have q3 := q1.below b3
        have hb2 := hb.trans (b3.mono hb.size)
        cases he : keepB n m C D ss (j : Int) gn gx
        · go_wp2
          go_ret
          exact ⟨ret_bool (by rw [allKeepB, HF'.out he L hlt]; simp), hb2⟩
        · go_wp2
          go_roundw
          case rel => exact ⟨j + 1, by omega, by go_num, hb2, q3, by rw [HK'.out, HA.out, he]; rfl⟩
          case measure => simp [intOf]; omega
      · obtain rfl : j = L := by omega
        go_wp2
        go_ret
        exact ⟨ret_bool (by rw [allKeepB, H1.out, decide_eq_true H2.out, HA.out]; rfl), hb⟩
  · have h2' : ((L : Int) != (m : Int)) = true := by simp [h2]
    have H2 : Hid (¬ (L : Int) = m) := h2
    clear h2
    go_enter Try.func24, Try.ntmps24
    go_wp2_with fail
    refine (itrt_any _ _ _ _ _ _ C D _ (hC.below b0) (hD.below b0) hn hm).mono ?_
    rintro r w1 ⟨rfl, b1⟩
    have B1 := b0.trans (b1.mono b0.size)
    have q1 := q0.below b1
    obtain ⟨c0, c1⟩ := q1.two
    rw [H1.out]
    go_wp2
    go_ret
    exact ⟨ret_bool (by rw [allKeepB, decide_eq_false H2.out]; simp), B1⟩

end Go.Proofs.Ytmbhcngddpoonaa
