/-
  stopsIn: the deferred function that catches a stop; all steps of an act.
-/
import Derived.Test.YtfkcfjkojfnfnaaDoorLeave2
import Derived.Defers
import Derived.Recover
namespace Go.Proofs.YtfkcfjkojfnfnaaDoor
open Go.RowKit
set_option linter.unusedVariables false
set_option maxRecDepth 100000

theorem as_nil_sign (w : World) : (Instr.typeAssert .nilIface 20 129 true).run Tryd.prog w = .ok (.tuple #[.agg #[], .bool false]) w := by kernel_rfl
theorem as_sign_sign (w : World) : (Instr.typeAssert (.iface 129 (.agg #[])) 20 129 true).run Tryd.prog w = .ok (.tuple #[.agg #[], .bool true]) w := by kernel_rfl
theorem ne_nil_nil (w : World) : (binOp .neq 20 .nilIface .nilIface).run Tryd.prog w = .ok (.bool false) w := by kernel_rfl
theorem ne_sign_nil (w : World) : (binOp .neq 20 (.iface 129 (.agg #[])) .nilIface).run Tryd.prog w = .ok (.bool true) w := by kernel_rfl

theorem catch_idle (F : Nat) (b : Bool) (w : World) (hc : w.cell? ⟨F, 0, none⟩ = some (.bool b)) (hz : w.frozen? ⟨F, 0, none⟩ = false) :
    CallsD Tryd.prog 92 #[.pointer (some ⟨F, 0, none⟩)] .returning w fun e u' w' => e = .returned (.tuple #[]) ∧ u' = .returning ∧ w' = w.setCell ⟨F, 0, none⟩ (.bool false) := by
  have h1 := as_nil_sign
  have h2 := ne_nil_nil
  refine callsD_of_wpS Tryd.func92 rfl fun c₀ cs hu => ?_
  apply wpS_seq
  apply wpS_region
  simp [wpOpsS, go_sem, recoverD, hu, Tryd.ntmps92, Exit.thenS]
  refine wpS_of_wp ?_
  go_wp2
  cases c₀
  simp_all [bodyPostS, results, Tryd.results92]

set_option maxHeartbeats 1600000 in
theorem catch_stop (F : Nat) (b : Bool) (older : List PanicEntry) (w : World) (hc : w.cell? ⟨F, 0, none⟩ = some (.bool b)) (hz : w.frozen? ⟨F, 0, none⟩ = false) :
    CallsD Tryd.prog 92 #[.pointer (some ⟨F, 0, none⟩)] (.panicking ({ v := .iface 129 (.agg #[]), recovered := false } :: older)) w fun e u' w' => e = .returned (.tuple #[]) ∧ u' = .panicking ({ v := .iface 129 (.agg #[]), recovered := true } :: older) ∧ w' = w.setCell ⟨F, 0, none⟩ (.bool true) := by
  have h1 := as_sign_sign
  have h2 := ne_sign_nil
  refine callsD_of_wpS Tryd.func92 rfl fun c₀ cs hu => ?_
  apply wpS_seq
  apply wpS_region
  simp [wpOpsS, go_sem, recoverD, hu, Tryd.ntmps92, Exit.thenS]
  refine wpS_of_wp ?_
  go_wp2
  simp [bodyPostS, results, Tryd.results92]

theorem DR.other {w1 W : World} {Dd B cp : Nat} {ua : Option Addr} {cu : Nat} {v : Value} {x tl : List Int} (s : DR w1 Dd B cp ua cu v x tl W) {F : Nat} (h1 : w1.heap.size ≤ F) (h2 : Dd ≠ F) (h3 : F ≠ B) (nF : v.ownBlock ≠ some F) (i : Nat) (y : Value) : DR w1 Dd B cp ua cu v x tl (W.setCell ⟨F, i, none⟩ y) :=
  ⟨s.b.setCell h1 _, s.d.setOther h2 _ _, s.ox.setOther (fun _ => h3) _ _, s.j.set h1 nF _ _, s.ne, s.nd⟩

set_option maxHeartbeats 6400000 in
theorem stops_any (w1 : World) (Dd B cp : Nat) (ua : Option Addr) (cu : Nat) (v : Value) (ad : Option Addr) (N : Nat) (ls : List LV) (V U : List Int) (sa : Option Addr) (scap G : Nat) (W : World)
    (hN : ls.length = N) (h6 : N ≤ 6) (hF : LinesG w1 ad ls) (hall : ls.all LV.ok = true) (hsa : 0 < N → sa = some ⟨G, 0, none⟩) (hst : ∀ i, i < N → w1.cell? ⟨G, i, none⟩ = some (stepV (ls[i]?.getD noLV))) (iU : Ints w1 ua 2 U) (bU : bnd 9 U) (bV : bnd 10000 V) (hVL : V.length = 3)
    (s0 : DR w1 Dd B cp ua cu v V [] W) (hB : w1.heap.size ≤ B) (hD : w1.heap.size ≤ Dd) (hDB : Dd ≠ B) :
    Calls Tryd.prog 65 #[.pointer (some ⟨Dd, 0, none⟩), .slice sa N scap] W fun e w' => e = .returned (.bool (runL U ls V).1) ∧ Below w1.heap.size w1 w' ∧ ((runL U ls V).1 = false → ∃ v' , DR w1 Dd B cp ua cu v' (runL U ls V).2.1 (runL U ls V).2.2 w' ∧ (runL U ls V).2.2.length ≤ 100) := by
  have HN : Hid (ls.length = N) := hN
  have HO : Hid (ls.all LV.ok = true) := hall
  have HST : Hid _ := hst
  have HSA : Hid _ := hsa
  clear hN hall hst hsa
  have hmf : ∀ (fn : Fn) (first cap : Array Value) (w : World), (Instr.makeFunc fn first cap).run Tryd.prog w = .ok (.func fn first cap) w := fun _ _ _ _ => rfl
  have sF := s0.alloc (.cells #[.bool false] 4)
  have cF := Cel.new W [.bool false] 4
  have nF : v.ownBlock ≠ some W.heap.size := fun e => by have := (s0.j.o.lt _ e).2; omega
  have lB := s0.ox.lt (by omega)
  have lD := s0.d.lt
  have HAT : Hid (At U ls V 0 V []) := At.start bV hVL
  clear s0
  go_enter_defers Tryd.func65, Tryd.ntmps65
  go_wp2_with fail
  go_loopw [5] (fun i wr => ∃ (k : Nat) (x tl : List Int) (v' : Value), k ≤ 12 ∧ i = .int .i64 k ∧ At U ls V k x tl ∧ DR w1 Dd B cp ua cu v' x tl wr ∧ Cel wr W.heap.size [.bool false] 4 ∧ v'.ownBlock ≠ some W.heap.size) (fun i _ => N - (intOf i).toNat)
  case atStart => exact ⟨0, V, [], v, by omega, rfl, HAT.out, sF, cF, nF⟩
  case round =>
    clear sF cF nF HAT
    obtain ⟨k, x, tl, v', hk12, rfl, hAt, s, cF, nF⟩ := hrel
    have HAT : Hid (At U ls V k x tl) := hAt
    clear hAt
    have c0 := cF.cell 0
    have f0 := cF.free 0
    simp only [List.getElem?_cons_zero] at c0
    have zw := s.b.size
    have z1 : w1.heap.size ≤ W.heap.size := by omega
    by_cases hlt : k < N
    · obtain ⟨b, off, rfl, hc, hAtL⟩ := (hF.below s.b) k (by rw [HN.out]; exact hlt)
      have hok := allL_at (k := k) HO.out (by rw [HN.out]; exact hlt)
      have hkl : Hid (k < ls.length) := by show k < ls.length; rw [HN.out]; exact hlt
      have h6l : Hid (ls.length ≤ 6) := by show ls.length ≤ 6; rw [HN.out]; exact h6
      have bX := HAT.out.b (by omega)
      have bd6 := bd_six (n := k) (by omega)
      have bdp := bd_pos k
      obtain rfl := HSA.out (by omega)
      have hstep : wr.cell? ⟨G, k, none⟩ = some (stepV (ls[k]?.getD noLV)) := by
        have h0 := HST.out k hlt
        rw [s.b.cell (p := ⟨G, k, none⟩) (block_lt h0)]; exact h0
      generalize HG : ls[k]?.getD noLV = g at *
      have HG' : Hid (ls[k]?.getD noLV = g) := HG
      clear HG hc
      obtain ⟨gk, gp, gz, ⟨ga, gn, gcap, gc, gm, gcap', gK, gC, gD⟩⟩ := g
      obtain ⟨iC, iD, hn, hm⟩ := hAtL
      simp only at iC iD hn hm
      have iUr := iU.below s.b
      have hok' : lineB gk gp gz gn gm gC gD gK = true := hok
      clear hok
      by_cases hk1 : gk = 1
      · subst hk1
        obtain ⟨z1', z2', hsm⟩ := line_one hok'
        obtain ⟨rfl, rfl, bC, bD, bK1, bK2⟩ := small_elim hsm
        obtain ⟨q1, q2, q3, q4⟩ := small_at bC bD bK1 bK2 bX bU (by omega)
        obtain ⟨y, hy⟩ : ∃ y, atV gC gD gK x U = y := ⟨_, rfl⟩
        have HY : Hid (atV gC gD gK x U = y) := hy
        have HS : Hid (∀ j, (j = if y < 0 then k + 1 + gz.toNat else k + 1) → At U ls V j x tl) := fun j hj => HAT.out.skip hkl.out h6l.out HG'.out rfl (by rw [hj, ← hy]; rfl)
        have hstep' : wr.cell? ⟨G, k, none⟩ = some (.iface 147 (.agg #[.int .i64 gz, .slice ga 3 gcap, .slice gc 2 gcap', .int .i64 gK])) := by rw [hstep]; rfl
        clear hy hok' hsm bX q3 q4 hstep
        by_cases hneg : y < 0
        · go_wp2_with fail
          refine (leave_test w1 Dd B cp ua cu v' x tl _ _ _ _ _ _ gC gD U y _ _ _ s iC iD iUr HY.out q1 q2 (by omega) (by omega) (by omega) (by omega) ⟨by omega, by omega⟩).mono ?_
          rintro e w3 ⟨rfl, b3⟩
          rw [if_pos hneg]
          have s3 := s.below b3
          have cF3 := cF.below b3
          clear b3 s iC iD iUr q1 q2 c0 f0 cF hstep'
          go_wp2
          go_roundw
          case rel => exact ⟨k + 1 + gz.toNat, x, tl, v', by omega, by go_num, HS.out _ (by rw [if_pos hneg]), s3, cF3, nF⟩
          case measure => simp [intOf]; omega
        · go_wp2_with fail
          refine (leave_test w1 Dd B cp ua cu v' x tl _ _ _ _ _ _ gC gD U y _ _ _ s iC iD iUr HY.out q1 q2 (by omega) (by omega) (by omega) (by omega) ⟨by omega, by omega⟩).mono ?_
          rintro e w3 ⟨rfl, b3⟩
          rw [if_neg (by omega)]
          have s3 := s.below b3
          have cF3 := cF.below b3
          clear b3 s iC iD iUr q1 q2 c0 f0 cF hstep'
          go_wp2
          go_roundw
          case rel => exact ⟨k + 1, x, tl, v', by omega, by go_num, HS.out _ (by rw [if_neg (by omega)]), s3, cF3, nF⟩
          case measure => simp [intOf]; omega
      by_cases hk2 : gk = 2
      · subst hk2
        obtain ⟨z1', z2', hsm⟩ := line_two hok'
        obtain ⟨rfl, rfl, bC, bD, bK1, bK2⟩ := small_elim hsm
        obtain ⟨q1, q2, q3, q4⟩ := small_at bC bD bK1 bK2 bX bU (by omega)
        obtain ⟨pn, rfl⟩ := Int.eq_ofNat_of_zero_le z1'
        have hpn : pn < 3 := by omega
        obtain ⟨xp, hxp⟩ : ∃ xp, x[pn]?.getD 0 = xp := ⟨_, rfl⟩
        have HXP : Hid (x[pn]?.getD 0 = xp) := hxp
        obtain ⟨r1, r2⟩ := bX pn
        rw [hxp] at r1 r2
        obtain ⟨y, hy⟩ : ∃ y, atV gC gD gK x U = y := ⟨_, rfl⟩
        have HY : Hid (atV gC gD gK x U = y) := hy
        rw [hy] at q3 q4
        have HS : Hid (At U ls V (k + 1) (x.set pn (xp + y)) tl) := by
          have := HAT.out.add hkl.out h6l.out HG'.out rfl (by show _ ≤ atV gC gD gK x U; rw [hy]; omega) (by show atV gC gD gK x U ≤ _; rw [hy]; omega)
          simp only [Int.toNat_natCast, hxp] at this
          rw [show atF x U ⟨ga, 3, gcap, gc, 2, gcap', gK, gC, gD⟩ = y from hy] at this
          exact this
        have hstep' : wr.cell? ⟨G, k, none⟩ = some (.iface 149 (.agg #[.int .i64 (pn : Int), .slice ga 3 gcap, .slice gc 2 gcap', .int .i64 gK])) := by rw [hstep]; rfl
        clear hy hxp hok' hsm bX hstep
        go_wp2_with fail
        refine (leave_add w1 Dd B cp ua cu v' x tl pn xp _ _ _ _ _ gC gD U y _ _ _ s iC iD iUr HY.out q1 q2 (by omega) (by omega) (by omega) (by omega) ⟨by omega, by omega⟩ hpn HXP.out (by omega) (by omega) (by omega) (by omega) hB hDB).mono ?_
        rintro e w3 ⟨rfl, s3, t3⟩
        have cF3 := cF.touch t3 (fun e => by omega)
        clear t3 s iC iD iUr q1 q2 c0 f0 cF hstep'
        go_wp2
        go_roundw
        case rel => exact ⟨k + 1, _, tl, v', by omega, by go_num, HS.out, s3, cF3, nF⟩
        case measure => simp [intOf]; omega
      by_cases hk3 : gk = 3
      · subst hk3
        have hsm := line_three hok'
        obtain ⟨rfl, rfl, bC, bD, bK1, bK2⟩ := small_elim hsm
        obtain ⟨q1, q2, q3, q4⟩ := small_at bC bD bK1 bK2 bX bU (by omega)
        obtain ⟨y, hy⟩ : ∃ y, atV gC gD gK x U = y := ⟨_, rfl⟩
        have HY : Hid (atV gC gD gK x U = y) := hy
        have HS : Hid (At U ls V (k + 1) x (tl ++ [y])) := by
          have := HAT.out.tell hkl.out h6l.out HG'.out rfl
          rw [show atF x U ⟨ga, 3, gcap, gc, 2, gcap', gK, gC, gD⟩ = y from hy] at this
          exact this
        have ht := HAT.out.t
        have hstep' : wr.cell? ⟨G, k, none⟩ = some (.iface 151 (.agg #[.slice ga 3 gcap, .slice gc 2 gcap', .int .i64 gK])) := by rw [hstep]; rfl
        have lF := cF.lt
        clear hy hok' hsm bX q3 q4 hstep
        go_wp2_with fail
        refine (leave_tell w1 Dd B cp ua cu v' x tl tl.length _ _ _ _ _ gC gD U y _ _ _ s iC iD iUr HY.out q1 q2 (by omega) (by omega) (by omega) (by omega) ⟨by omega, by omega⟩ rfl (by omega) hB hD hDB).mono ?_
        rintro e w3 ⟨rfl, ⟨v2, s3, nf⟩, t3⟩
        have cF3 := cF.touch t3 (fun e => by
          rcases e with e | e
          · omega
          · exact nF e)
        have nF3 := nf _ lF nF
        clear t3 s iC iD iUr q1 q2 c0 f0 cF hstep' nf
        go_wp2
        go_roundw
        case rel => exact ⟨k + 1, x, tl ++ [y], v2, by omega, by go_num, HS.out, s3, cF3, nF3⟩
        case measure => simp [intOf]; omega
      have hk4 : gk = 4 := by
        apply Classical.byContradiction
        intro h4
        simp [lineB, hk1, hk2, hk3, h4] at hok'
      subst hk4
      have hstop : (runL U ls V).1 = true := HAT.out.stop hkl.out h6l.out HG'.out hk1 hk2 hk3
      have HSTOP : Hid ((runL U ls V).1 = true) := hstop
      have hstep' : wr.cell? ⟨G, k, none⟩ = some (.iface 152 (.agg #[])) := by rw [hstep]; rfl
      clear hstop hstep hok' bX
      go_wp2_with fail
      refine (leave_stop _ _).mono ?_
      rintro e w3 ⟨rfl, b3⟩
      have s3 := s.below b3
      have cF3 := cF.below b3
      clear b3 s cF c0 f0
      go_wp2
      refine leaves_cons (f := 92) (args := #[.pointer (some ⟨W.heap.size, 0, none⟩)]) (by simp) (by simp [go_sem]) ?_
      refine (catch_stop W.heap.size false [] _ (cF3.cell 0) (cF3.free 0)).mono ?_
      rintro e u' w'' ⟨rfl, rfl, rfl⟩
      have cF4 := (cF3.set 0 (.bool true)).cell 0
      simp only [List.set_cons_zero, List.getElem?_cons_zero] at cF4
      have b4 : Below w1.heap.size w1 (w3.setCell ⟨W.heap.size, 0, none⟩ (.bool true)) := s3.b.setCell z1 _
      simp [Leaves, settle, results, Tryd.results65, go_sem, cF4]
      exact ⟨HSTOP.out, b4, fun h => by rw [HSTOP.out] at h; cases h⟩
    · have hd := HAT.out.done (by rw [HN.out]; omega)
      have HD : Hid (runL U ls V = (false, x, tl)) := hd
      have ht := HAT.out.t
      clear hd
      go_wp2
      have cF1 := cF.set 0 (.bool false)
      refine leaves_cons (f := 92) (args := #[.pointer (some ⟨W.heap.size, 0, none⟩)]) (by simp) (by simp [go_sem]) ?_
      refine (catch_idle W.heap.size false _ (cF1.cell 0) (cF1.free 0)).mono ?_
      rintro e u' w'' ⟨rfl, rfl, rfl⟩
      have cF2 := (cF1.set 0 (.bool false)).cell 0
      have s2 := (s.other (F := W.heap.size) z1 (by omega) (by omega) nF 0 (.bool false)).other (F := W.heap.size) z1 (by omega) (by omega) nF 0 (.bool false)
      simp only [List.set_cons_zero, List.getElem?_cons_zero] at cF2
      simp [Leaves, settle, results, Tryd.results65, go_sem, cF2]
      rw [HD.out]
      exact ⟨rfl, s2.b, fun _ => ⟨⟨v', s2⟩, by show tl.length ≤ 100; omega⟩⟩

end Go.Proofs.YtfkcfjkojfnfnaaDoor
