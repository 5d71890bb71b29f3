/-
  The specification's LogOf: those of one client, in order, in memory of their own. At most 1048576 of them.
-/
import Derived.Test.YtgiemeiilagfeaaCpLg
namespace Go.Proofs.Ytgiemeiilagfeaa
open Go.RowKit Go.Deep
set_option linter.unusedVariables false
set_option maxRecDepth 100000

/-- What one of them says, wherever its lists lie. -/
def dLg (f : LgV) : Int × Int × Int × List Int × Int × List Int := (f.x, f.q, f.c, f.t.x, f.e, f.u.x)
/-- What those of one client say, in order. -/
def ownD (cl : Int) (fs : List LgV) : List (Int × Int × Int × List Int × Int × List Int) := (fs.map dLg).filter (fun d => decide (d.1 = cl))
theorem ownD_step {fs : List LgV} {k : Nat} (hk : k < fs.length) (cl : Int) : ownD cl (fs.take (k + 1)) = ownD cl (fs.take k) ++ (if (fs[k]?.getD noLg).x = cl then [dLg (fs[k]?.getD noLg)] else []) := by
  unfold ownD
  rw [List.take_add_one, List.map_append, List.filter_append]
  have e : fs[k]? = some fs[k] := List.getElem?_eq_getElem hk
  rw [e]
  by_cases h : fs[k].x = cl
  · simp [dLg, h]
  · simp [dLg, h]
theorem ownD_yes {fs ts : List LgV} {k : Nat} {g s : LgV} {cl : Int} (hk : k < fs.length) (hg : fs[k]?.getD noLg = g) (he : g.x = cl) (hs : dLg s = dLg g) (ht : ts.map dLg = ownD cl (fs.take k)) : (ts ++ [s]).map dLg = ownD cl (fs.take (k + 1)) := by
  rw [ownD_step hk, hg, if_pos he, List.map_append, ht, ← hs]; rfl
theorem ownD_no {fs ts : List LgV} {k : Nat} {g : LgV} {cl : Int} (hk : k < fs.length) (hg : fs[k]?.getD noLg = g) (he : ¬ g.x = cl) (ht : ts.map dLg = ownD cl (fs.take k)) : ts.map dLg = ownD cl (fs.take (k + 1)) := by
  rw [ownD_step hk, hg, if_neg he, List.append_nil, ht]

set_option maxHeartbeats 6400000 in
theorem slogof_any (Bq N cap : Nat) (fs : List LgV) (cl : Int) (w : World) (hN : fs.length = N) (hF : MLg w Bq N fs) (hN1 : N ≤ 1048576) :
    Calls Try.prog 6 #[.slice (some ⟨Bq, 0, none⟩) N cap, .int .i64 cl] w fun e w' => ∃ v ts bs ds, e = .returned v ∧ ts.length ≤ N ∧ JLg w v ts bs ds w' ∧ ts.map dLg = ownD cl fs := by
  have HN : Hid (fs.length = N) := hN
  have HF : Hid (MLg w Bq N fs) := hF
  clear hN hF
  obtain ⟨zi, hi, hz0, hz1, hz2⟩ := info_parts Try.infoLogDone
  have j0 := JLg.lit w (fun _ => 0) (fun _ => 0)
  go_enter Try.func6, Try.ntmps6
  go_wp2_with fail
  go_loopw [5, 6] (fun r i wr => ∃ (k : Nat) (ts : List LgV) (bs ds : Nat → Nat), k ≤ N ∧ i = .int .i64 k ∧ Hid (ts.length ≤ k) ∧ JLg w r ts bs ds wr ∧ Hid (ts.map dLg = ownD cl (fs.take k))) (fun _ i _ => N - (intOf i).toNat)
  case atStart => exact ⟨0, [], fun _ => 0, fun _ => 0, Nat.zero_le _, rfl, Nat.le_refl _, j0, rfl⟩
  case round =>
    clear j0
    obtain ⟨k, ts, bs, ds, hk, rfl, htl0, j, HS⟩ := hrel
    by_cases hlt : k < N
    · obtain ⟨kk, htl'⟩ : ∃ kk, ts.length = kk := ⟨_, rfl⟩
      have htl : Hid (ts.length = kk) := htl'
      have hkk : kk ≤ k := by rw [← htl']; exact htl0.out
      clear htl'
      obtain ⟨va, vc, rfl⟩ := j.isSlice htl.out
      have hlt' : (k : Int) < N := by omega
      have hdk := HF.out.l k (by rw [HN.out]; exact hlt)
      have hcsW : ∀ W, Below w.heap.size w W → ∀ r, r < 6 → W.cell? ⟨Bq, k * 6 + r, none⟩ = (fs[k]?.getD noLg).cs[r]? := fun W hW r hr => by
        obtain ⟨vs, hcel, hvl, hcs⟩ := (HF.out.below hW).c
        rw [hcel.cell]
        exact hcs k (by rw [HN.out]; exact hlt) r hr
      generalize HG : fs[k]?.getD noLg = g at *
      have HT : Hid (fs[k]?.getD noLg = g) := HG
      clear HG
      obtain ⟨gx, gq, gc, ⟨gta, gtn, gtc, gtx⟩, ge, ⟨gua, gun, guc, gux⟩⟩ := g
      obtain ⟨⟨Bl, hBl, _, hblk, hlen, hle⟩, ⟨Bm, hBm, _, hblm, hlem, hlf⟩, -⟩ := hdk
      obtain rfl : gta = some ⟨Bl, 0, none⟩ := hBl
      obtain rfl : gua = some ⟨Bm, 0, none⟩ := hBm
      have hblk : Blk w Bl gtx := hblk
      have hlen : Hid (gtx.length = gtn) := hlen
      have hle : gtn ≤ 1048576 := hle
      have hblm : Blk w Bm gux := hblm
      have hlem : Hid (gux.length = gun) := hlem
      have hlf : gun ≤ 1048576 := hlf
      have KP : Hid (∀ W, Below w.heap.size w W → W.cell? ⟨Bq, k * 6, none⟩ = some (.int .i64 gx) ∧ W.cell? ⟨Bq, k * 6 + 1, none⟩ = some (.int .i64 gq) ∧ W.cell? ⟨Bq, k * 6 + 2, none⟩ = some (.int .i64 gc) ∧ W.cell? ⟨Bq, k * 6 + 3, none⟩ = some (.slice (some ⟨Bl, 0, none⟩) gtn gtc) ∧ W.cell? ⟨Bq, k * 6 + 4, none⟩ = some (.int .i64 ge) ∧ W.cell? ⟨Bq, k * 6 + 5, none⟩ = some (.slice (some ⟨Bm, 0, none⟩) gun guc)) := fun W hW => cellsLg (hcsW W hW)
      clear hcsW
      have sz := j.b.size
      obtain ⟨e0, e1, e2, e3, e4, e5⟩ := KP.out _ j.b
      by_cases hcl : gx = cl
      · subst hcl
        have d0 := j.b.drew
        have hSS := And.intro (KP.out _ d0) True.intro
        go_upto_region 6 with fail
        refine wp_region_ends (fun w' => w'.cell? ⟨Bq, k * 6, none⟩ = some (.int .i64 gx) ∧ w'.cell? ⟨Bq, k * 6 + 1, none⟩ = some (.int .i64 gq) ∧ w'.cell? ⟨Bq, k * 6 + 2, none⟩ = some (.int .i64 gc) ∧ w'.cell? ⟨Bq, k * 6 + 3, none⟩ = some (.slice (some ⟨Bl, 0, none⟩) gtn gtc) ∧ w'.cell? ⟨Bq, k * 6 + 4, none⟩ = some (.int .i64 ge) ∧ w'.cell? ⟨Bq, k * 6 + 5, none⟩ = some (.slice (some ⟨Bm, 0, none⟩) gun guc)) (fun _ => True) 16 (by kernel_rfl) ?_
        have jd := j.below (Below.refl _ _).drew
        have fz : wr.drew.heap.size ≤ wr.heap.size ∧ wr.heap.size ≤ wr.drew.heap.size := ⟨Nat.le_refl _, Nat.le_refl _⟩
        obtain ⟨V0, hV0⟩ : ∃ V, V = wr.drew := ⟨_, rfl⟩
        rw [← hV0] at hSS d0 jd fz ⊢
        clear hV0 j e0 e1 e2 e3 e4 e5
        refine tkL (i := 0) rfl hSS ?_
        refine tkL (i := 1) rfl hSS ?_
        refine tkL (i := 2) rfl hSS ?_
        refine tkL (i := 3) rfl hSS ?_
        refine tkL (i := 4) rfl hSS ?_
        refine tkL (i := 5) rfl hSS ?_
        refine tkL (i := 7) rfl hSS ?_
        refine tkL (i := 8) rfl hSS ?_
        refine tkL (i := 9) rfl hSS ?_
        refine tkL (i := 10) rfl hSS ?_
        refine tkL (i := 11) rfl hSS ?_
        clear hSS
        (try simp only [Act.put, List.setIfInBounds_toArray, List.set_cons_succ, List.set_cons_zero, List.getElem_toArray, List.getElem_cons_succ, List.getElem_cons_zero])
        refine wpAnyE_one (i := 6) (by kernel_rfl) rfl (fun K hK => ?_)
        go_simp
        refine (scopCall_any _ _ _ _ _ _ gtx _ (hblk.below d0) hlen.out hle).mono ?_
        rintro ee w2 ⟨na, nc, nB, rfl, b2, o2, g2⟩
        have j2 := jd.below b2
        have sz2 := b2.size
        (try dsimp only)
        refine hK.out _ _ ⟨KP.out _ j2.b, fun _ => trivial⟩ ?_
        clear hK K
        refine wpAnyE_one (i := 12) (by kernel_rfl) rfl (fun K hK => ?_)
        go_simp
        refine (scopRes_any _ _ _ _ gux _ (hblm.below j2.b) hlem.out hlf).mono ?_
        rintro ee w3 ⟨ma, mc, mB, rfl, b3, o3, g3⟩
        have j3 := j2.below b3
        have o2' := o2.below b3
        have sz3 := b3.size
        have hAC : Hid (0 < gtn → 0 < gun → nB ≠ mB) := fun h0 h1 => by
          have := o2.lt h0
          have := g3 h1
          omega
        (try dsimp only)
        refine hK.out _ _ ⟨KP.out _ j3.b, fun _ => trivial⟩ ?_
        clear hK K
        have hnew : Hid (0 < gtn → ∀ i, i < kk → (0 < (ts[i]?.getD noLg).t.n → bs i ≠ nB) ∧ (0 < (ts[i]?.getD noLg).u.n → ds i ≠ nB)) := fun h0 i hi => by
          have h2 := g2 h0
          exact ⟨fun hi0 => by have h1 := ((jd.k i (by rw [htl.out]; exact hi)).1).lt hi0; omega, fun hi0 => by have h1 := ((jd.u i (by rw [htl.out]; exact hi)).1).lt hi0; omega⟩
        have hnewC : Hid (0 < gun → ∀ i, i < kk → (0 < (ts[i]?.getD noLg).t.n → bs i ≠ mB) ∧ (0 < (ts[i]?.getD noLg).u.n → ds i ≠ mB)) := fun h0 i hi => by
          have h2 := g3 h0
          exact ⟨fun hi0 => by have h1 := ((jd.k i (by rw [htl.out]; exact hi)).1).lt hi0; omega, fun hi0 => by have h1 := ((jd.u i (by rw [htl.out]; exact hi)).1).lt hi0; omega⟩
        have hlo : Hid (0 < gtn → w.heap.size ≤ nB ∧ some nB ≠ (Value.slice va kk vc).ownBlock) := fun h0 => by
          have h2 := g2 h0
          exact ⟨by omega, fun e => by have := (jd.own e.symm).2; omega⟩
        have hloC : Hid (0 < gun → w.heap.size ≤ mB ∧ some mB ≠ (Value.slice va kk vc).ownBlock) := fun h0 => by
          have h2 := g3 h0
          exact ⟨by omega, fun e => by have := (jd.own e.symm).2; omega⟩
        refine wpAnyE_one (i := 13) (by kernel_rfl) rfl (fun K hK => ?_)
        go_simp
        refine hK.out _ _ ⟨KP.out _ j3.b, fun _ => trivial⟩ ?_
        clear hK K
        have A : Below w3.heap.size w3 (w3.alloc (.cells #[.int .i64 gx, .int .i64 gq, .int .i64 gc, .slice na gtn nc, .int .i64 ge, .slice ma gun mc] 52)) := (Below.refl _ _).alloc (Nat.le_refl _) _
        have j4 := j3.below A
        have ho : (w3.alloc (.cells #[.int .i64 gx, .int .i64 gq, .int .i64 gc, .slice na gtn nc, .int .i64 ge, .slice ma gun mc] 52)).ownsRow w.heap.size 52 6 (.slice va kk vc) kk (ts.flatMap LgV.cs) := by
          have := j4.o
          rw [htl.out] at this
          exact this
        have hs5 := j4.b.size
        refine wpAnyE_one (i := 14) (by kernel_rfl) rfl (fun K hK => ?_)
        go_simp
        refine hK.out _ _ ⟨KP.out _ j4.b, fun _ => trivial⟩ ?_
        clear hK K
        refine wpAnyE_one (i := 15) (by kernel_rfl) rfl (fun K hK => ?_)
        rw [if_pos (by rfl)]
        refine wp_append_lies _ (.tmp 22) (.tmp 36) 24 rfl w.heap.size 52 zi _ 6 80 Try.underlying24 hi hz0 hz1 hz2 rfl (by omega) (.slice va kk vc) kk (ts.flatMap LgV.cs) (by rfl) ho ⟨w3.heap.size, 0, none⟩ 1 1 [.int .i64 gx, .int .i64 gq, .int .i64 gc, .slice na gtn nc, .int .i64 ge, .slice ma gun mc] (by rfl) (by rfl) (World.news_of_block (cs := #[.int .i64 gx, .int .i64 gq, .int .i64 gc, .slice na gtn nc, .int .i64 ge, .slice ma gun mc]) (t := 52) (fr := (0, 0)) (heap_alloc_new w3 _)) (by simp [Value.oneCell']) (by omega) (by unfold maxLen; omega) (by omega) hs5 (w3.heap.size + 1) (by rw [World.size_alloc]) ?_
        intro g cp w4 hown hgrow hat hlt1
        have j5 := j3.app (s := ⟨gx, gq, gc, ⟨na, gtn, nc, gtx⟩, ge, ⟨ma, gun, mc, gux⟩⟩) htl.out o2' hle hlo.out o3 hlf hloC.out hAC.out hnew.out hnewC.out hown hgrow (hat.elim (fun h => .inl (by rw [h]; rfl)) (fun h => .inr (by rw [h, World.size_alloc]; rfl)))
        have HS5 : Hid ((ts ++ [(⟨gx, gq, gc, ⟨na, gtn, nc, gtx⟩, ge, ⟨ma, gun, mc, gux⟩⟩ : LgV)]).map dLg = ownD gx (fs.take (k + 1))) := ownD_yes (by rw [HN.out]; exact hlt) HT.out rfl rfl HS.out
        refine hK.out _ _ ⟨KP.out _ j5.b, fun _ => trivial⟩ ?_
        clear hK K hown hgrow hat j4 j3 j2 jd o3 o2 o2' ho
        refine wpAnyE_one (i := 16) (by kernel_rfl) rfl (fun K hK => ?_)
        go_simp
        refine hK.out _ _ ⟨KP.out _ j5.b, fun _ => trivial⟩ ?_
        clear hK K
        refine wpAnyE_done (by kernel_rfl) ?_ _
        go_wp2
        go_roundw
        case rel => exact ⟨k + 1, _, _, _, by omega, by go_num, by show _ ≤ _; rw [List.length_append, htl.out, List.length_singleton]; omega, j5, HS5⟩
        case measure => simp [intOf]; omega
      · have HS5 : Hid (ts.map dLg = ownD cl (fs.take (k + 1))) := ownD_no (by rw [HN.out]; exact hlt) HT.out hcl HS.out
        go_wp2
        go_roundw
        case rel => exact ⟨k + 1, ts, bs, ds, by omega, by go_num, by show _ ≤ _; rw [htl.out]; omega, j, HS5⟩
        case measure => simp [intOf]; omega
    · obtain rfl : k = N := by omega
      have HS6 : Hid (ts.map dLg = ownD cl fs) := by
        have h := HS.out
        rw [List.take_of_length_le (by rw [HN.out]; exact Nat.le_refl _)] at h
        exact h
      go_wp2
      go_ret
      exact ⟨_, ts, bs, ds, rfl, htl0.out, j, HS6.out⟩

end Go.Proofs.Ytgiemeiilagfeaa
