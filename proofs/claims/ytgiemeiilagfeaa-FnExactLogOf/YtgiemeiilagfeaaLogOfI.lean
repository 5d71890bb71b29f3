/-
  The program's LogOf: those of one client, in order, in memory of their own. At most 1048576 of them.
-/
import Derived.Test.YtgiemeiilagfeaaLogOfS
namespace Go.Proofs.Ytgiemeiilagfeaa
open Go.RowKit Go.Deep
set_option linter.unusedVariables false
set_option maxRecDepth 100000

set_option maxHeartbeats 6400000 in
theorem ilogof_any (Bq N cap : Nat) (fs : List LgV) (cl : Int) (w : World) (hN : fs.length = N) (hF : MLg w Bq N fs) (hN1 : N ≤ 1048576) :
    Calls Try.prog 8 #[.slice (some ⟨Bq, 0, none⟩) N cap, .int .i64 cl] w fun e w' => ∃ v ts bs ds, e = .returned v ∧ ts.length ≤ N ∧ JLg w v ts bs ds w' ∧ ts.map dLg = ownD cl fs := by
  have HN : Hid (fs.length = N) := hN
  have HF : Hid (MLg w Bq N fs) := hF
  clear hN hF
  obtain ⟨zi, hi, hz0, hz1, hz2⟩ := info_parts Try.infoLogDone
  go_enter Try.func8, Try.ntmps8
  go_wp2_with fail
  go_loopw [5, 7, 10] (fun r _ i wr => ∃ (k : Nat) (ts : List LgV) (bs ds : Nat → Nat), k ≤ N ∧ i = .int .i64 k ∧ Hid (ts.length ≤ k) ∧ JLg w r ts bs ds wr ∧ Hid (ts.map dLg = ownD cl (fs.take k))) (fun _ _ i _ => N - (intOf i).toNat)
  case atStart => exact ⟨0, [], fun _ => 0, fun _ => 0, Nat.zero_le _, rfl, Nat.le_refl _, JLg.nil w _ (Below.refl _ _) _ _, rfl⟩
  case round =>
    obtain ⟨k, ts, bs, ds, hk, rfl, htl0, j, HS⟩ := hrel
    by_cases hlt : k < N
    · obtain ⟨kk, htl'⟩ : ∃ kk, ts.length = kk := ⟨_, rfl⟩
      have htl : Hid (ts.length = kk) := htl'
      have hkk : kk ≤ k := by rw [← htl']; exact htl0.out
      clear htl'
      obtain ⟨va, vc, rfl⟩ := j.isSlice htl.out
      have hlt' : (k : Int) < N := by omega
      have hdk := HF.out.l k (by rw [HN.out]; exact hlt)
      have hcsW : ∀ W, Below w.heap.size w W → ∀ r, r < 6 → W.cell? ⟨Bq, k * 6 + r, none⟩ = (fs[k]?.getD noLg).cs[r]? := fun W hW r hr => by
        obtain ⟨vs, hcel, hvl, hcs⟩ := (HF.out.below hW).c
        rw [hcel.cell]
        exact hcs k (by rw [HN.out]; exact hlt) r hr
      generalize HG : fs[k]?.getD noLg = g at *
      have HT : Hid (fs[k]?.getD noLg = g) := HG
      clear HG
      obtain ⟨gx, gq, gc, ⟨gta, gtn, gtc, gtx⟩, ge, ⟨gua, gun, guc, gux⟩⟩ := g
      obtain ⟨⟨Bl, hBl, _, hblk, hlen, hle⟩, ⟨Bm, hBm, _, hblm, hlem, hlf⟩, -⟩ := hdk
      obtain rfl : gta = some ⟨Bl, 0, none⟩ := hBl
      obtain rfl : gua = some ⟨Bm, 0, none⟩ := hBm
      have hblk : Blk w Bl gtx := hblk
      have hlen : Hid (gtx.length = gtn) := hlen
      have hle : gtn ≤ 1048576 := hle
      have hblm : Blk w Bm gux := hblm
      have hlem : Hid (gux.length = gun) := hlem
      have hlf : gun ≤ 1048576 := hlf
      have KP : Hid (∀ W, Below w.heap.size w W → W.cell? ⟨Bq, k * 6, none⟩ = some (.int .i64 gx) ∧ W.cell? ⟨Bq, k * 6 + 1, none⟩ = some (.int .i64 gq) ∧ W.cell? ⟨Bq, k * 6 + 2, none⟩ = some (.int .i64 gc) ∧ W.cell? ⟨Bq, k * 6 + 3, none⟩ = some (.slice (some ⟨Bl, 0, none⟩) gtn gtc) ∧ W.cell? ⟨Bq, k * 6 + 4, none⟩ = some (.int .i64 ge) ∧ W.cell? ⟨Bq, k * 6 + 5, none⟩ = some (.slice (some ⟨Bm, 0, none⟩) gun guc)) := fun W hW => cellsLg (hcsW W hW)
      clear hcsW
      have sz := j.b.size
      obtain ⟨e0, e1, e2, e3, e4, e5⟩ := KP.out _ j.b
      obtain ⟨WA, hWA⟩ : ∃ W, W = wr.alloc (.cells #[.int .i64 gx, .int .i64 gq, .int .i64 gc, .slice (some ⟨Bl, 0, none⟩) gtn gtc, .int .i64 ge, .slice (some ⟨Bm, 0, none⟩) gun guc] 52) := ⟨_, rfl⟩
      have A1 : Below wr.heap.size wr WA := by rw [hWA]; exact (Below.refl _ _).alloc (Nat.le_refl _) _
      have pA : Cel WA wr.heap.size [.int .i64 gx, .int .i64 gq, .int .i64 gc, .slice (some ⟨Bl, 0, none⟩) gtn gtc, .int .i64 ge, .slice (some ⟨Bm, 0, none⟩) gun guc] 52 := by rw [hWA]; exact Cel.new wr _ _
      have jA := j.below A1
      by_cases hcl : gx = cl
      · subst hcl
        go_upto_region 5 with fail
        rw [← hWA]
        obtain ⟨q0, q1, q2, q3, q4, q5⟩ := pA.sixL
        clear hWA e0 e1 e2 e3 e4 e5 j
        go_wp2_with fail
        refine (icopLg_any _ _ _ _ _ _ gtx _ _ _ _ gux _ (hblk.below jA.b) hlen.out hle (hblm.below jA.b) hlem.out hlf).mono ?_
        rintro ee w3 ⟨na, nc, nB, ma, mc, mB, rfl, b3, o2, g2, o3, g3, hAC⟩
        have j3 := jA.below b3
        have sz3 := b3.size
        have szA := A1.size
        have hnew : Hid (0 < gtn → ∀ i, i < kk → (0 < (ts[i]?.getD noLg).t.n → bs i ≠ nB) ∧ (0 < (ts[i]?.getD noLg).u.n → ds i ≠ nB)) := fun h0 i hi => by
          have h2 := g2 h0
          exact ⟨fun hi0 => by have h1 := ((jA.k i (by rw [htl.out]; exact hi)).1).lt hi0; omega, fun hi0 => by have h1 := ((jA.u i (by rw [htl.out]; exact hi)).1).lt hi0; omega⟩
        have hnewC : Hid (0 < gun → ∀ i, i < kk → (0 < (ts[i]?.getD noLg).t.n → bs i ≠ mB) ∧ (0 < (ts[i]?.getD noLg).u.n → ds i ≠ mB)) := fun h0 i hi => by
          have h2 := g3 h0
          exact ⟨fun hi0 => by have h1 := ((jA.k i (by rw [htl.out]; exact hi)).1).lt hi0; omega, fun hi0 => by have h1 := ((jA.u i (by rw [htl.out]; exact hi)).1).lt hi0; omega⟩
        have hlo : Hid (0 < gtn → w.heap.size ≤ nB ∧ some nB ≠ (Value.slice va kk vc).ownBlock) := fun h0 => by
          have h2 := g2 h0
          exact ⟨by omega, fun e => by have := (jA.own e.symm).2; omega⟩
        have hloC : Hid (0 < gun → w.heap.size ≤ mB ∧ some mB ≠ (Value.slice va kk vc).ownBlock) := fun h0 => by
          have h2 := g3 h0
          exact ⟨by omega, fun e => by have := (jA.own e.symm).2; omega⟩
        have HAC : Hid _ := hAC
        have A : Below w3.heap.size w3 (w3.alloc (.cells #[.int .i64 gx, .int .i64 gq, .int .i64 gc, .slice na gtn nc, .int .i64 ge, .slice ma gun mc] 52)) := (Below.refl _ _).alloc (Nat.le_refl _) _
        have j4 := j3.below A
        have ho : (w3.alloc (.cells #[.int .i64 gx, .int .i64 gq, .int .i64 gc, .slice na gtn nc, .int .i64 ge, .slice ma gun mc] 52)).ownsRow w.heap.size 52 6 (.slice va kk vc) kk (ts.flatMap LgV.cs) := by
          have := j4.o
          rw [htl.out] at this
          exact this
        clear jA q0 q1 q2 q3 q4 q5 pA A1 b3 g2 g3 hAC hblk hblm
        go_wp2_with (at_builtin; go_must (refine wpList_append_lies _ rfl (.tmp 19) (.tmp 22) 24 rfl w.heap.size 52 zi _ 6 80 Try.underlying24 hi hz0 hz1 hz2 rfl (by decide) (.slice va kk vc) kk (ts.flatMap LgV.cs) rfl ho ⟨w3.heap.size, 0, none⟩ 1 1 [.int .i64 gx, .int .i64 gq, .int .i64 gc, .slice na gtn nc, .int .i64 ge, .slice ma gun mc] rfl rfl (World.news_of_block (cs := #[.int .i64 gx, .int .i64 gq, .int .i64 gc, .slice na gtn nc, .int .i64 ge, .slice ma gun mc]) (t := 52) (fr := (0, 0)) (heap_alloc_new w3 _)) (by simp [Value.oneCell']) (by omega) (by unfold maxLen; omega) (by omega) (by rw [World.size_alloc]; omega) _ rfl ?_); intro g cp w4 hown hgrow hat hlt1)
        have j5 := j3.app (s := ⟨gx, gq, gc, ⟨na, gtn, nc, gtx⟩, ge, ⟨ma, gun, mc, gux⟩⟩) htl.out o2 hle hlo.out o3 hlf hloC.out HAC.out hnew.out hnewC.out hown hgrow (hat.elim (fun h => .inl (by rw [h]; rfl)) (fun h => .inr (by rw [h]; rfl)))
        have HS5 : Hid ((ts ++ [(⟨gx, gq, gc, ⟨na, gtn, nc, gtx⟩, ge, ⟨ma, gun, mc, gux⟩⟩ : LgV)]).map dLg = ownD gx (fs.take (k + 1))) := ownD_yes (by rw [HN.out]; exact hlt) HT.out rfl rfl HS.out
        clear hown hgrow hat j4 j3 o3 o2 ho
        go_wp2
        go_roundw
        case rel => exact ⟨k + 1, _, _, _, by omega, by go_num, by show _ ≤ _; rw [List.length_append, htl.out, List.length_singleton]; omega, j5, HS5⟩
        case measure => simp [intOf]; omega
      · have HS5 : Hid (ts.map dLg = ownD cl (fs.take (k + 1))) := ownD_no (by rw [HN.out]; exact hlt) HT.out hcl HS.out
        rw [hWA] at jA
        clear hWA A1 pA
        go_wp2
        go_roundw
        case rel => exact ⟨k + 1, ts, bs, ds, by omega, by go_num, by show _ ≤ _; rw [htl.out]; omega, jA, HS5⟩
        case measure => simp [intOf]; omega
    · obtain rfl : k = N := by omega
      have HS6 : Hid (ts.map dLg = ownD cl fs) := by
        have h := HS.out
        rw [List.take_of_length_le (by rw [HN.out]; exact Nat.le_refl _)] at h
        exact h
      go_wp2
      go_ret
      exact ⟨_, ts, bs, ds, rfl, htl0.out, j, HS6.out⟩

end Go.Proofs.Ytgiemeiilagfeaa
