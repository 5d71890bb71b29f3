/-
  An act is tried at one site alone (impl.LocTry), over plain lists; of all arguments. Lengths at most 1048576.
-/
import Derived.Test.YtfmpcihghlnlnaaGreatDoorQq
import Derived.Test.YtfmpcihghlnlnaaGreatDoorQp
namespace Go.Proofs.YtfmpcihghlnlnaaGreatDoor
open Go.RowKit Go.Deep
open List renaming setIfInBounds_toArray → qA, set_cons_zero → qB, set_cons_succ → qC, getElem_cons_zero → qD, getElem_cons_succ → qE, getElem?_cons_zero → qF, getElem?_cons_succ → qG, getElem_toArray → qH, length_map → qI
set_option linter.unusedVariables false
set_option linter.unusedSimpArgs false
set_option maxRecDepth 100000
set_option maxHeartbeats 25600000
variable {C D E U : List Int} {G m : Nat} {W W' : World} {s : Int} {ss ts : List IV}
def ivs (P : List (List Int)) : List IV := P.map fun x => ⟨none, 3, 3, x⟩
theorem copies_ivs {P : List (List Int)} (h : ts.map IV.x = P) (h3 : ∀ i, i < ts.length -> (ts[i]?.getD noI).n = 3) : ts.length = (ivs P).length /\ copiesIS (ivs P) ts := by
 subst h;refine ⟨by simp [ivs], fun i hi => ?_⟩;have e : ((ivs (ts.map IV.x))[i]?.getD noI) = ⟨none, 3, 3, (ts[i]?.getD noI).x⟩ := by simp [ivs, hi]
 rw [e]
 exact ⟨h3 i hi, rfl⟩
theorem bnds_copy {FC FD : List Int} {FK : Int} (hl : ts.length = ss.length) (h : copiesIS ss ts) : bnds m C D ts s E FC FD FK U = bnds m C D ss s E FC FD FK U := by
 rw [bnds, bnds, hasI_copy hl h]
theorem sureR_copy (hl : ts.length = ss.length) (h : copiesIS ss ts) : sureR m C D ts s E U = sureR m C D ss s E U := by
 funext r
 have e : sureG m C D ts s E U = sureG m C D ss s E U := by funext g; rw [sureG, sureG, bnds_copy hl h]
 rw [sureR, sureR, e]
theorem tryL_copy {f : Nat -> Bool} {st : Bool} {AD TL : List Int} (hl : ts.length = ss.length) (h : copiesIS ss ts) : tryL m C D ts s E U f st AD TL = tryL m C D ss s E U f st AD TL := by
 have e : ∀ x v, potB m C D ts s x U v = potB m C D ss s x U v := fun x v => by rw [potB, potB, bnds_copy hl h]
 simp only [tryL, e, keepsB_copy hl h]
def locL (n m : Nat) (C D : List Int) (N : Nat) (ss : List L2V) (s : Int) (k : Nat) (E : List Int) (kk : Int) (l : Nat) (U : List Int) : Int × List Int × List Int × Bool :=
 if !catB N ss || !inB kk 0 ((N : Int) - 1) || !okN 2 9 l U then (0, [], [], false) else
 if !viewB n m C D (ivs (catP ss)) s k E || !keepsB (D[s.toNat]?.getD 0) E (ivs (catP ss)) || pinned (pinsA ss) E then (0, [], [], false) else
 match (rowsL (ss[kk.toNat]?.getD noL).x).find? (sureR m C D (ivs (catP ss)) s E U) with
 | none => (0, [], E, false)
 | some r => tryR m C D (ivs (catP ss)) s E U (pinsA ss) r
theorem isure_any (a : Option Addr) (cap : Nat) (c : Option Addr) (m cap' : Nat) (G N pc : Nat) (s : Int) (e : Option Addr) (ec : Nat) (u : Option Addr) (uc : Nat) (C D E U : List Int) (ss : List IV) (la : Option Addr) (ln lc : Nat) (ls : List LV) (w : World) (hv : Vw w a c m G e u C D E U ss) (hb : Vb m N C D E U ss) (hN : ls.length = ln) (hF : LinesG w la ls) (hN1 : ln <= 1048576) (hok : actB ln ls = true) :
  Calls Tryz.prog 89 #[viewV a 3 cap c m cap' (some ⟨G, 0, none⟩) N pc s e 3 ec u 2 uc, .slice la ln lc] w fun r w' => Below w.heap.size w w' /\ ((∃ v q, r = .returned (.tuple #[v, .bool true]) /\ (rowsL ls).find? (sureR m C D ss s E U) = some q /\ RowN w' v q) \/ ((rowsL ls).find? (sureR m C D ss s E U) = none /\ r = .returned (.tuple #[.agg #[.slice none 0 0, .slice none 0 0, .slice none 0 0, .bool false], .bool false]))) :=
 callsIn_wide.1 (isure_in a cap c m cap' G N pc s e ec u uc C D E U ss la ln lc ls w 0 hv hb hN hF hN1 hok)
theorem JO.vwt {w : World} {n cG X : Nat} {bs : Nat -> Nat} (j : JO w (.slice (some ⟨G, 0, none⟩) n cG) ts bs W) (hn : ts.length = n) (t : Touch (fun z => z = X) W W') (hX : X < w.heap.size \/ W.heap.size <= X) : (∃ cur, Cel W' G cur 23 /\ ∀ i, i < ts.length -> cur[i]? = some (ts[i]?.getD noI).v) /\ (∀ i, i < ts.length -> IG W' (ts[i]?.getD noI)) /\ (∀ i, i < ts.length -> (ts[i]?.getD noI).n = 3) := by
 subst hn;obtain ⟨hlo, cur, hc⟩ := j.blk (g := G) rfl;have h3 : ∀ i, i < ts.length -> (ts[i]?.getD noI).n = 3 := fun i hi => (j.k i hi).1;have q : Cel W G cur.toList 23 := by unfold Cel; simpa using hc
 have lG := q.lt;refine ⟨⟨cur.toList, cel_past q t, fun i hi => ?_⟩, fun i hi => ?_, h3⟩
 ·have h2 := own_cell j.o i (by omega);rw [<- q.cell i, h2];simp [hi]
 obtain ⟨_, hx, hb, _⟩ := j.k i hi;have hl := hx.lt (by omega)
 exact ⟨by rw [h3 i hi]; exact (hx.touch t (fun _ h => by have h : bs i = X := h; omega)).ints, by rw [h3 i hi]; omega⟩
def PG (W : World) (G : Nat) (ts : List IV) : Prop := (∃ cur, Cel W G cur 23 /\ ∀ i, i < ts.length -> cur[i]? = some (ts[i]?.getD noI).v) /\ ∀ i, i < ts.length -> IG W (ts[i]?.getD noI)
theorem PG.below (h : PG W G ts) (b : Below W.heap.size W W') : PG W' G ts := by
 obtain ⟨⟨cur, hc, hv⟩, hI⟩ := h
 exact ⟨⟨cur, hc.below b, hv⟩, fun i hi => (hI i hi).below b⟩
theorem PG.isg (h : PG W G ts) : ISG W (some ⟨G, 0, none⟩) ts := fun i hi => by
 obtain ⟨⟨cur, hc, hv⟩, hI⟩ := h
 exact ⟨G, 0, rfl, by rw [Nat.zero_add, hc.cell i]; exact hv i hi, hI i hi⟩
def At1 (W : World) (b o : Nat) (v : Value) : Prop := W.cell? ⟨b, o, none⟩ = some v
theorem At1.below {b o : Nat} {v : Value} (h : At1 W b o v) (k : Below W.heap.size W W') : At1 W' b o v := by
 unfold At1 at *;rw [k.cell (p := ⟨b, o, none⟩) (block_lt h)]; exact h
theorem At1.past {b o : Nat} {v : Value} {X : Nat} (h : At1 W b o v) (t : Touch (fun z => z = X) W W') (hX : b ≠ X) : At1 W' b o v := by
 unfold At1 at *;rw [World.cell?_of_block (t.block b (block_lt h) hX)]; exact h
theorem iloc_any (ad : Option Addr) (N cc : Nat) (a : Option Addr) (n cap : Nat) (c : Option Addr) (m cap' : Nat) (s : Int) (e : Option Addr) (k ec : Nat) (kk : Int) (u : Option Addr) (l uc : Nat) (ss : List L2V) (C D E U : List Int) (w : World)
  (hA : LSG w ad ss) (hC : Ints w a n C) (hD : Ints w c m D) (hE : Ints w e k E) (hU : Ints w u l U) (hN : ss.length = N) (hN1 : N <= 1048576) (hn : n <= 1048576) (hm : m <= 1048576) (hk : k <= 1048576) (hl : l <= 1048576) :
  Calls Tryz.prog 51 #[.slice ad N cc, .agg #[.slice a n cap, .slice c m cap'], .int .i64 s, .slice e k ec, .int .i64 kk, .slice u l uc] w fun r w' => LocD w w' r (locL n m C D N ss s k E kk l U) := by
 have HN : Hid (ss.length = N) := hN;obtain ⟨R, hR⟩ : ∃ R, locL n m C D N ss s k E kk l U = R := ⟨_, rfl⟩
 have HR0 : Hid (locL n m C D N ss s k E kk l U = R) := hR;rw [hR];clear hN hR
 go_enter Tryz.func51, Tryz.ntmps51
 have al := (Below.refl (w).heap.size (w)).alloc (Nat.le_refl _) (.cells #[.slice a n cap, .slice c m cap'] 59);have BB := al;replace hA := hA.below al;replace hC := hC.below al;replace hD := hD.below al;replace hE := hE.below al;replace hU := hU.below al;clear al;have q7 := Cel.new (w) [.slice a n cap, .slice c m cap'] 59;have al := (Below.refl ((w).alloc (.cells #[.slice a n cap, .slice c m cap'] 59)).heap.size ((w).alloc (.cells #[.slice a n cap, .slice c m cap'] 59))).alloc (Nat.le_refl _) (.cells #[.int .i64 0, .slice none 0 0] 55);replace BB := btr BB al;replace hA := hA.below al;replace hC := hC.below al;replace hD := hD.below al;replace hE := hE.below al;replace hU := hU.below al;replace q7 := q7.below al;clear al;have q12 := Cel.new ((w).alloc (.cells #[.slice a n cap, .slice c m cap'] 59)) [.int .i64 0, .slice none 0 0] 55;simp only [World.size_alloc] at q12;obtain ⟨g7_0, g7_1⟩ := q7.c2;obtain ⟨g12_0, g12_1⟩ := q12.c2
 go_wp2_with fail
 generalize ((w).alloc (.cells #[.slice a n cap, .slice c m cap'] 59)).alloc (.cells #[.int .i64 0, .slice none 0 0] 55) = W1 at hA hC hD hE hU q7 q12 BB g7_0 g7_1 g12_0 g12_1 ⊢;obtain ⟨X12, hX12⟩ : ∃ x, x = w.heap.size + 1 := ⟨_, rfl⟩
 rw [<- hX12];rw [<- hX12] at q12 g12_0 g12_1;have loX12 : w.heap.size + 1 <= X12 := by omega
 have upX12 : X12 <= w.heap.size + 1 := by omega
 clear hX12;obtain ⟨X7, hX7⟩ : ∃ x, x = w.heap.size := ⟨_, rfl⟩
 rw [<- hX7];rw [<- hX7] at q7 g7_0 g7_1;have loX7 : w.heap.size <= X7 := by omega
 have upX7 : X7 <= w.heap.size := by omega
 clear hX7;refine (icat_any _ _ _ ss HN.out hA hN1).mono ?_;rintro ee w2 ⟨rfl, b1⟩;clear g7_0 g7_1 g12_0 g12_1;replace BB := btr BB b1;replace hA := hA.below b1;replace hC := hC.below b1;replace hD := hD.below b1;replace hE := hE.below b1;replace hU := hU.below b1;replace q7 := q7.below b1;replace q12 := q12.below b1;clear b1
 cases h1 : catB N ss
 ·obtain ⟨g12_0, g12_1⟩ := q12.c2;have f12_0 := q12.free 0;have f12_1 := q12.free 1;have l12 := q12.lt;have z12 := (q12.set 0 (.int .i64 0)).set 1 (.slice none 0 0);have z120 := z12.cell 0;have z121 := z12.cell 1;simp only [qF, qG, qB, qC] at z120 z121;clear z12;have hBB := (BB.setCell (p := ⟨X12, 0, none⟩) (by simp only []; omega) (.int .i64 0)).setCell (p := ⟨X12, 1, none⟩) (by simp only []; omega) (.slice none 0 0);have HR : Hid (R = (0, [], [], false)) := by (show _ = _; rw [<- HR0.out]; simp [locL, h1])
  go_wp2
  exact bodyPost_ret (v := .tuple #[resV 0 none 0 0, .slice none 0 0, .bool false]) (by simp [results, Tryz.results51, go_sem, z120, z121]) rfl (by rw [HR.out]; unfold LocD; exact ⟨none, 0, 0, 0, none, 0, 0, 0, rfl, rfl, rfl, hBB, OwnX.nil _ _ 0, OwnX.nil _ _ 0, fun h => absurd h (by omega), fun h => absurd h (by omega), fun h _ => absurd h (by omega)⟩)
 obtain ⟨g7_0, g7_1⟩ := q7.c2;obtain ⟨g12_0, g12_1⟩ := q12.c2
 go_wp2_with fail
 refine (place_any).mono ?_;rintro ee v3 ⟨rfl, rfl⟩;rw [place_in]
 cases h2 : inB kk 0 ((N : Int) - 1)
 ·clear g7_0 g7_1 g12_0 g12_1;obtain ⟨g12_0, g12_1⟩ := q12.c2;have f12_0 := q12.free 0;have f12_1 := q12.free 1;have l12 := q12.lt;have z12 := (q12.set 0 (.int .i64 0)).set 1 (.slice none 0 0);have z120 := z12.cell 0;have z121 := z12.cell 1;simp only [qF, qG, qB, qC] at z120 z121;clear z12;have hBB := (BB.setCell (p := ⟨X12, 0, none⟩) (by simp only []; omega) (.int .i64 0)).setCell (p := ⟨X12, 1, none⟩) (by simp only []; omega) (.slice none 0 0);have HR : Hid (R = (0, [], [], false)) := by (show _ = _; rw [<- HR0.out]; simp [locL, h1, h2])
  go_wp2
  exact bodyPost_ret (v := .tuple #[resV 0 none 0 0, .slice none 0 0, .bool false]) (by simp [results, Tryz.results51, go_sem, z120, z121]) rfl (by rw [HR.out]; unfold LocD; exact ⟨none, 0, 0, 0, none, 0, 0, 0, rfl, rfl, rfl, hBB, OwnX.nil _ _ 0, OwnX.nil _ _ 0, fun h => absurd h (by omega), fun h => absurd h (by omega), fun h _ => absurd h (by omega)⟩)
 go_wp2_with fail
 refine (iarg_any U hU hl).mono ?_;rintro ee v4 ⟨rfl, rfl⟩
 cases h3 : okN 2 9 l U
 ·clear g7_0 g7_1 g12_0 g12_1;obtain ⟨g12_0, g12_1⟩ := q12.c2;have f12_0 := q12.free 0;have f12_1 := q12.free 1;have l12 := q12.lt;have z12 := (q12.set 0 (.int .i64 0)).set 1 (.slice none 0 0);have z120 := z12.cell 0;have z121 := z12.cell 1;simp only [qF, qG, qB, qC] at z120 z121;clear z12;have hBB := (BB.setCell (p := ⟨X12, 0, none⟩) (by simp only []; omega) (.int .i64 0)).setCell (p := ⟨X12, 1, none⟩) (by simp only []; omega) (.slice none 0 0);have HR : Hid (R = (0, [], [], false)) := by (show _ = _; rw [<- HR0.out]; simp [locL, h1, h2, h3])
  go_wp2
  exact bodyPost_ret (v := .tuple #[resV 0 none 0 0, .slice none 0 0, .bool false]) (by simp [results, Tryz.results51, go_sem, z120, z121]) rfl (by rw [HR.out]; unfold LocD; exact ⟨none, 0, 0, 0, none, 0, 0, 0, rfl, rfl, rfl, hBB, OwnX.nil _ _ 0, OwnX.nil _ _ 0, fun h => absurd h (by omega), fun h => absurd h (by omega), fun h _ => absurd h (by omega)⟩)
 have hk2 := inB_iff.1 h2;have h4 := (catB_parts h1).1;obtain ⟨rfl, bU⟩ := okN_nat (by omega) h3;obtain ⟨kn, rfl⟩ : ∃ kn : Nat, kk = kn := ⟨kk.toNat, by omega⟩
 have hkN : kn < N := by omega
 clear hk2;have HP4 : Hid (catB N ss = true /\ inB (kn : Int) 0 ((N : Int) - 1) = true /\ okN 2 9 2 U = true) := ⟨h1, h2, h3⟩
 clear h1 h2 h3
 go_upto_region 3 with fail
 clear g7_0 g7_1 g12_0 g12_1;have lX12a := q12.lt
 go_cut [15] (fun v wx => ∃ X15 G cG, ∃ ts : List IV, v = .pointer (some ⟨X15, 0, none⟩) /\ Cel wx X15 [.slice a n cap, .slice c m cap', .slice (some ⟨G, 0, none⟩) (catP ss).length cG, .int .i64 s, .slice e k ec, .slice u 2 uc] 136 /\ ts.map IV.x = catP ss /\ ((∃ cur, Cel wx G cur 23 /\ ∀ i, i < ts.length -> cur[i]? = some (ts[i]?.getD noI).v) /\ (∀ i, i < ts.length -> IG wx (ts[i]?.getD noI)) /\ (∀ i, i < ts.length -> (ts[i]?.getD noI).n = 3)) /\ Below v4.heap.size v4 wx /\ v4.heap.size <= X15)
 case first =>
  refine wp_region_ends (fun X => X.cell? ⟨X7, 0, none⟩ = some (.slice a n cap) /\ X.cell? ⟨X7, 1, none⟩ = some (.slice c m cap')) (fun _ => True) 8 (by kernel_rfl) ?_;have d0 : Below v4.heap.size v4 v4.drew := (Below.refl _ _).drew;have p0 := q7.below d0;have A0 := hA.below d0;generalize v4.drew = V0 at d0 p0 A0 ⊢;have hSS : (V0.cell? ⟨X7, 0, none⟩ = some (.slice a n cap) /\ V0.cell? ⟨X7, 1, none⟩ = some (.slice c m cap')) /\ True := ⟨⟨p0.cell 0, p0.cell 1⟩, trivial⟩
  refine tkl 0 rfl hSS ?_;refine tkl 1 rfl hSS ?_;refine tkl 3 rfl hSS ?_;refine tkl 4 rfl hSS ?_;refine tkl 5 rfl hSS ?_;simp only [Act.put, qA, qC, qB, qH, qE, qD];refine wo2 2 7 rfl rfl (fun K hK => ?_) fun K hK => ?_
  ·skip
   go_simp;refine (icatforms_any _ _ _ ss _ HN.out (A0) hN1).mono ?_;rintro ee V1 ⟨bF, hF⟩
   obtain ⟨G, cG, ts, bs, rfl, hts, jo⟩ : ∃ G cG ts bs, ee = .returned (.slice (some ⟨G, 0, none⟩) (catP ss).length cG) /\ ts.map IV.x = catP ss /\ JO V0 (.slice (some ⟨G, 0, none⟩) (catP ss).length cG) ts bs V1 := by
    rcases hF with ⟨hF, _⟩ | ⟨_, G, cG, ts, bs, h1, h2, h3⟩
    ·rw [HP4.out.1] at hF; cases hF
    exact ⟨G, cG, ts, bs, h1, h2, h3⟩
   have HTS : Hid (ts.map IV.x = catP ss) := hts;have HLT : Hid (ts.length = (catP ss).length) := by (show _ = _; rw [<- hts, qI])
   clear hF hts;(try dsimp only);have d2 := btr d0 bF;have sV := d2.size;replace p0 := p0.below bF;clear hSS;have hSS : (V1.cell? ⟨X7, 0, none⟩ = some (.slice a n cap) /\ V1.cell? ⟨X7, 1, none⟩ = some (.slice c m cap')) /\ True := ⟨⟨p0.cell 0, p0.cell 1⟩, trivial⟩
   refine kk0 hK (hSS.1) ?_;refine tkl 6 rfl hSS ?_;simp only [Act.put, qA, qC, qB, qH, qE, qD];refine wo1 7 rfl fun K hK => ?_;go_simp;obtain ⟨V2, hV2⟩ : ∃ W, W = V1.alloc (.cells #[.slice none 0 0, .slice none 0 0, .slice none 0 0, .int .i64 0, .slice none 0 0, .slice none 0 0] 136) := ⟨_, rfl⟩
   have AL : Below V1.heap.size V1 V2 := by rw [hV2]; exact bal
   have xb : Cel V2 V1.heap.size [.slice none 0 0, .slice none 0 0, .slice none 0 0, .int .i64 0, .slice none 0 0, .slice none 0 0] 136 := by rw [hV2]; exact Cel.new V1 _ _
   have d1 := btr d2 AL;have lV := d2.size;have lXV := xb.lt;replace p0 := p0.below AL;rw [<- hV2];clear hSS;have hSS : (V2.cell? ⟨X7, 0, none⟩ = some (.slice a n cap) /\ V2.cell? ⟨X7, 1, none⟩ = some (.slice c m cap')) /\ True := ⟨⟨p0.cell 0, p0.cell 1⟩, trivial⟩
   refine kk0 hK (hSS.1) ?_;clear hK K hV2;have xS := ((((((xb.set 0 (.slice a n cap)).set 1 (.slice c m cap')).set 2 (.slice (some ⟨G, 0, none⟩) (catP ss).length cG)).set 3 (.int .i64 s)).set 4 (.slice e k ec)).set 5 (.slice u 2 uc))
   simp only [qB, qC] at xS;have T := ((((((Touch.refl (fun z => z = V1.heap.size) V2).setCell (B := V1.heap.size) (i := 0) rfl (.slice a n cap)).setCell (B := V1.heap.size) (i := 1) rfl (.slice c m cap')).setCell (B := V1.heap.size) (i := 2) rfl (.slice (some ⟨G, 0, none⟩) (catP ss).length cG)).setCell (B := V1.heap.size) (i := 3) rfl (.int .i64 s)).setCell (B := V1.heap.size) (i := 4) rfl (.slice e k ec)).setCell (B := V1.heap.size) (i := 5) rfl (.slice u 2 uc);have y0 := xb.cell 0;have y1 := xb.cell 1;have y2 := xb.cell 2;have y3 := xb.cell 3;have y4 := xb.cell 4;have y5 := xb.cell 5;have z0 := xb.free 0;have z1 := xb.free 1;have z2 := xb.free 2;have z3 := xb.free 3;have z4 := xb.free 4;have z5 := xb.free 5;have lX := xb.lt;simp only [qF, qG] at y0 y1 y2 y3 y4 y5;have pS := cel_past p0 T;have vw := jo.vwt HLT.out ((Touch.of AL).trans T) (by omega);have dS := d1.trans (T.below (B := v4.heap.size) (by omega) (fun z hz => by have hz : z = V1.heap.size := hz; omega));refine wo1 8 rfl fun K hK => ?_;go_simp;refine hK.out _ _ ⟨⟨pS.cell 0, pS.cell 1⟩, fun _ => trivial⟩ ?_;refine wod ?_ _;clear y0 y1 y2 y3 y4 y5 z0 z1 z2 z3 z4 z5 T xb jo hSS
   go_wp2_with fail
   go_meet
   case rel => exact ⟨V1.heap.size, G, cG, ts, rfl, xS, HTS.out, vw, dS, by omega⟩
  skip
  go_simp;obtain ⟨V2, hV2⟩ : ∃ W, W = V0.alloc (.cells #[.slice none 0 0, .slice none 0 0, .slice none 0 0, .int .i64 0, .slice none 0 0, .slice none 0 0] 136) := ⟨_, rfl⟩
  have AL : Below V0.heap.size V0 V2 := by rw [hV2]; exact bal
  have xb : Cel V2 V0.heap.size [.slice none 0 0, .slice none 0 0, .slice none 0 0, .int .i64 0, .slice none 0 0, .slice none 0 0] 136 := by rw [hV2]; exact Cel.new V0 _ _
  have d1 := btr d0 AL;have lV := d0.size;have lXV := xb.lt;replace p0 := p0.below AL;rw [<- hV2];clear hSS;have hSS : (V2.cell? ⟨X7, 0, none⟩ = some (.slice a n cap) /\ V2.cell? ⟨X7, 1, none⟩ = some (.slice c m cap')) /\ True := ⟨⟨p0.cell 0, p0.cell 1⟩, trivial⟩
  refine kk0 hK (hSS.1) ?_;clear hK K hV2;replace A0 := A0.below AL;refine wo1 2 rfl fun K hK => ?_;go_simp;refine (icatforms_any _ _ _ ss _ HN.out (A0) hN1).mono ?_;rintro ee V1 ⟨bF, hF⟩
  obtain ⟨G, cG, ts, bs, rfl, hts, jo⟩ : ∃ G cG ts bs, ee = .returned (.slice (some ⟨G, 0, none⟩) (catP ss).length cG) /\ ts.map IV.x = catP ss /\ JO V2 (.slice (some ⟨G, 0, none⟩) (catP ss).length cG) ts bs V1 := by
   rcases hF with ⟨hF, _⟩ | ⟨_, G, cG, ts, bs, h1, h2, h3⟩
   ·rw [HP4.out.1] at hF; cases hF
   exact ⟨G, cG, ts, bs, h1, h2, h3⟩
  have HTS : Hid (ts.map IV.x = catP ss) := hts;have HLT : Hid (ts.length = (catP ss).length) := by (show _ = _; rw [<- hts, qI])
  clear hF hts;(try dsimp only);have d2 := btr d1 bF;replace p0 := p0.below bF;replace xb := xb.below bF;clear hSS;have hSS : (V1.cell? ⟨X7, 0, none⟩ = some (.slice a n cap) /\ V1.cell? ⟨X7, 1, none⟩ = some (.slice c m cap')) /\ True := ⟨⟨p0.cell 0, p0.cell 1⟩, trivial⟩
  refine kk0 hK (hSS.1) ?_;refine tkl 6 rfl hSS ?_;simp only [Act.put, qA, qC, qB, qH, qE, qD];have xS := ((((((xb.set 0 (.slice a n cap)).set 1 (.slice c m cap')).set 2 (.slice (some ⟨G, 0, none⟩) (catP ss).length cG)).set 3 (.int .i64 s)).set 4 (.slice e k ec)).set 5 (.slice u 2 uc))
  simp only [qB, qC] at xS;have T := ((((((Touch.refl (fun z => z = V0.heap.size) V1).setCell (B := V0.heap.size) (i := 0) rfl (.slice a n cap)).setCell (B := V0.heap.size) (i := 1) rfl (.slice c m cap')).setCell (B := V0.heap.size) (i := 2) rfl (.slice (some ⟨G, 0, none⟩) (catP ss).length cG)).setCell (B := V0.heap.size) (i := 3) rfl (.int .i64 s)).setCell (B := V0.heap.size) (i := 4) rfl (.slice e k ec)).setCell (B := V0.heap.size) (i := 5) rfl (.slice u 2 uc);have y0 := xb.cell 0;have y1 := xb.cell 1;have y2 := xb.cell 2;have y3 := xb.cell 3;have y4 := xb.cell 4;have y5 := xb.cell 5;have z0 := xb.free 0;have z1 := xb.free 1;have z2 := xb.free 2;have z3 := xb.free 3;have z4 := xb.free 4;have z5 := xb.free 5;have lX := xb.lt;simp only [qF, qG] at y0 y1 y2 y3 y4 y5;have pS := cel_past p0 T;have vw := jo.vwt HLT.out (T) (by omega);have dS := d2.trans (T.below (B := v4.heap.size) (by omega) (fun z hz => by have hz : z = V0.heap.size := hz; omega));refine wo1 8 rfl fun K hK => ?_;go_simp;refine hK.out _ _ ⟨⟨pS.cell 0, pS.cell 1⟩, fun _ => trivial⟩ ?_;refine wod ?_ _;clear y0 y1 y2 y3 y4 y5 z0 z1 z2 z3 z4 z5 T xb jo hSS
  go_wp2_with fail
  go_meet
  case rel => exact ⟨V0.heap.size, G, cG, ts, rfl, xS, HTS.out, vw, dS, by omega⟩
 case rest =>
  obtain ⟨X15, G, cG, ts, rfl, q15, hts, ⟨v0, v1, v2⟩, b15, lo15⟩ := hcut;replace BB := btr BB b15;replace hA := hA.below b15;replace hC := hC.below b15;replace hD := hD.below b15;replace hE := hE.below b15;replace hU := hU.below b15;replace q7 := q7.below b15;replace q12 := q12.below b15;clear b15;have hPG : PG wc G ts := ⟨v0, v1⟩
  clear v0 v1;obtain ⟨hcl, hcp⟩ := copies_ivs hts v2;have HTL : Hid (ts.length = (catP ss).length) := by (show _ = _; rw [<- hts, qI])
  have hL1 : (catP ss).length <= 1048576 := Nat.le_trans (catP_le (by rw [HN.out]; exact h4)) (by omega);have lX12b := q12.lt;have E1 : Hid (∀ n C D k E, viewB n m C D (ivs (catP ss)) s k E = viewB n m C D ts s k E) := fun n C D k E => (viewB_copy hcl hcp).symm;have E2 : Hid (∀ g E, keepsB g E (ivs (catP ss)) = keepsB g E ts) := fun g E => (keepsB_copy hcl hcp).symm;have E3 : Hid (∀ C D E U, sureR m C D (ivs (catP ss)) s E U = sureR m C D ts s E U) := fun C D E U => (sureR_copy hcl hcp).symm;have E4 : Hid (∀ C D E U f st AD TL, tryL m C D (ivs (catP ss)) s E U f st AD TL = tryL m C D ts s E U f st AD TL) := fun C D E U f st AD TL => (tryL_copy hcl hcp).symm;clear hcl hcp hts v2;obtain ⟨g7_0, g7_1⟩ := q7.c2;obtain ⟨g12_0, g12_1⟩ := q12.c2;obtain ⟨g15_0, g15_1, g15_2, g15_3, g15_4, g15_5⟩ := q15.c6
  go_wp2_with fail
  refine (icatpins_any _ _ _ ss _ HN.out hA hN1).mono ?_;rintro ee w5 ⟨bP, hP⟩
  obtain ⟨P, cP, rfl, oP⟩ : ∃ P cP, ee = .returned (.slice (some ⟨P, 0, none⟩) 3 cP) /\ OwnBB w5 P (pinsA ss) := by
   rcases hP with ⟨h, _⟩ | ⟨_, P, cP, h1, _, h3⟩
   ·rw [HP4.out.1] at h; cases h
   exact ⟨P, cP, h1, h3⟩
  clear hP;clear g7_0 g7_1 g12_0 g12_1 g15_0 g15_1 g15_2 g15_3 g15_4 g15_5;replace BB := btr BB bP;replace hA := hA.below bP;replace hC := hC.below bP;replace hD := hD.below bP;replace hE := hE.below bP;replace hU := hU.below bP;replace hPG := hPG.below bP;replace q7 := q7.below bP;replace q12 := q12.below bP;replace q15 := q15.below bP;clear bP;obtain ⟨g7_0, g7_1⟩ := q7.c2;obtain ⟨g12_0, g12_1⟩ := q12.c2;obtain ⟨g15_0, g15_1, g15_2, g15_3, g15_4, g15_5⟩ := q15.c6
  go_wp2_with fail
  refine (vok_any a n cap c m cap' (some ⟨G, 0, none⟩) (catP ss).length cG s e k ec u 2 uc C D E ts hC hD hE HTL.out hPG.isg hn hm hk hL1).mono ?_;rintro ee w6 ⟨rfl, b5⟩;clear g7_0 g7_1 g12_0 g12_1 g15_0 g15_1 g15_2 g15_3 g15_4 g15_5;replace BB := btr BB b5;replace hA := hA.below b5;replace hC := hC.below b5;replace hD := hD.below b5;replace hE := hE.below b5;replace hU := hU.below b5;replace hPG := hPG.below b5;replace oP := oP.below b5;replace q7 := q7.below b5;replace q12 := q12.below b5;replace q15 := q15.below b5;clear b5
  cases h5 : viewB n m C D ts s k E
  ·obtain ⟨g12_0, g12_1⟩ := q12.c2;have f12_0 := q12.free 0;have f12_1 := q12.free 1;have l12 := q12.lt;have z12 := (q12.set 0 (.int .i64 0)).set 1 (.slice none 0 0);have z120 := z12.cell 0;have z121 := z12.cell 1;simp only [qF, qG, qB, qC] at z120 z121;clear z12;have hBB := (BB.setCell (p := ⟨X12, 0, none⟩) (by simp only []; omega) (.int .i64 0)).setCell (p := ⟨X12, 1, none⟩) (by simp only []; omega) (.slice none 0 0);have HR : Hid (R = (0, [], [], false)) := by (show _ = _; rw [<- HR0.out]; simp [locL, HP4.out.1, HP4.out.2.1, HP4.out.2.2, E1.out, E2.out, h5])
   go_wp2
   exact bodyPost_ret (v := .tuple #[resV 0 none 0 0, .slice none 0 0, .bool false]) (by simp [results, Tryz.results51, go_sem, z120, z121]) rfl (by rw [HR.out]; unfold LocD; exact ⟨none, 0, 0, 0, none, 0, 0, 0, rfl, rfl, rfl, hBB, OwnX.nil _ _ 0, OwnX.nil _ _ 0, fun h => absurd h (by omega), fun h => absurd h (by omega), fun h _ => absurd h (by omega)⟩)
  obtain ⟨rfl, bC, hm1, hm3, hps, hs0, hs1, rfl, bE, bD⟩ := viewB_elim h5;have hb : Vb m (catP ss).length C D E U ts := ⟨HTL.out, hL1, hm3, bC, bE, bU, bD⟩
  obtain ⟨g7_0, g7_1⟩ := q7.c2;obtain ⟨g12_0, g12_1⟩ := q12.c2;obtain ⟨g15_0, g15_1, g15_2, g15_3, g15_4, g15_5⟩ := q15.c6
  go_wp2_with fail
  refine (vkeeps_any a 3 cap c m cap' (some ⟨G, 0, none⟩) (catP ss).length cG s e ec u 2 uc C D E ts hD hE HTL.out hPG.isg hL1 hm3 hs0 hs1 hps bE bD).mono ?_;rintro ee w7 ⟨rfl, b6⟩;clear g7_0 g7_1 g12_0 g12_1 g15_0 g15_1 g15_2 g15_3 g15_4 g15_5;replace BB := btr BB b6;replace hA := hA.below b6;replace hC := hC.below b6;replace hD := hD.below b6;replace hE := hE.below b6;replace hU := hU.below b6;replace hPG := hPG.below b6;replace oP := oP.below b6;replace q7 := q7.below b6;replace q12 := q12.below b6;replace q15 := q15.below b6;clear b6
  cases h6 : keepsB (D[s.toNat]?.getD 0) E ts
  ·obtain ⟨g12_0, g12_1⟩ := q12.c2;have f12_0 := q12.free 0;have f12_1 := q12.free 1;have l12 := q12.lt;have z12 := (q12.set 0 (.int .i64 0)).set 1 (.slice none 0 0);have z120 := z12.cell 0;have z121 := z12.cell 1;simp only [qF, qG, qB, qC] at z120 z121;clear z12;have hBB := (BB.setCell (p := ⟨X12, 0, none⟩) (by simp only []; omega) (.int .i64 0)).setCell (p := ⟨X12, 1, none⟩) (by simp only []; omega) (.slice none 0 0);have HR : Hid (R = (0, [], [], false)) := by (show _ = _; rw [<- HR0.out]; simp [locL, HP4.out.1, HP4.out.2.1, HP4.out.2.2, E1.out, E2.out, h5, h6])
   go_wp2
   exact bodyPost_ret (v := .tuple #[resV 0 none 0 0, .slice none 0 0, .bool false]) (by simp [results, Tryz.results51, go_sem, z120, z121]) rfl (by rw [HR.out]; unfold LocD; exact ⟨none, 0, 0, 0, none, 0, 0, 0, rfl, rfl, rfl, hBB, OwnX.nil _ _ 0, OwnX.nil _ _ 0, fun h => absurd h (by omega), fun h => absurd h (by omega), fun h _ => absurd h (by omega)⟩)
  obtain ⟨g7_0, g7_1⟩ := q7.c2;obtain ⟨g12_0, g12_1⟩ := q12.c2;obtain ⟨g15_0, g15_1, g15_2, g15_3, g15_4, g15_5⟩ := q15.c6
  go_wp2_with fail
  refine (ipin_any (pinsA ss) E oP hE).mono ?_;rintro ee v8 ⟨rfl, rfl⟩
  cases h7 : pinned (pinsA ss) E
  ·have lX15 := q15.lt;have lX12c := q12.lt
   go_upto_region 7 with fail
   clear g7_0 g7_1 g12_0 g12_1 g15_0 g15_1 g15_2 g15_3 g15_4 g15_5;have hv : Vw v8 a c m G e u C D E U ts := ⟨hC, hD, hE, hU, hPG.1, hPG.2⟩
   obtain ⟨ab, ao, rfl, hcell, hLG⟩ := hA kn (by rw [HN.out]; exact hkN)
   have hsok : (ss[kn]?.getD noL).ok = true := by
    have hi : kn < ss.length := by rw [HN.out]; exact hkN
    rw [List.getElem?_eq_getElem hi]
    exact List.all_eq_true.1 (catB_parts HP4.out.1).2 _ (List.getElem_mem hi)
   obtain ⟨sv, hs⟩ : ∃ sv, sv = ss[kn]?.getD noL := ⟨_, rfl⟩
   have HSX : Hid (ss[kn]?.getD noL = sv) := hs.symm;rw [<- hs] at hcell hLG hsok;obtain ⟨sa, sn, sc, sx⟩ := sv;obtain ⟨hxl, hLin, hsn⟩ := hLG;have hAt : At1 v8 ab (ao + kn) (.slice sa sn sc) := hcell;have lab : ab < v8.heap.size := block_lt hcell;have HXL : Hid (sx.length = sn) := hxl;have HAC : Hid (actB sn sx = true) := hsok;have hsn' : sn <= 1048576 := hsn;have hLi : LinesG v8 sa sx := hLin;clear hs hcell hxl hLin hsok hsn
   go_cut [17, 18] (fun v bb wx => ∃ X17, v = .pointer (some ⟨X17, 0, none⟩) /\ Below v8.heap.size v8 wx /\ v8.heap.size <= X17 /\ ((∃ q : RowM, bb = .bool true /\ (rowsL sx).find? (sureR m C D ts s E U) = some q /\ ∃ ga gc aa ac ta tc, Cel wx X17 [.slice ga q.guards.length gc, .slice aa q.adds.length ac, .slice ta q.tells.length tc, .bool q.stop] 113 /\ FormsAt wx ga q.guards /\ FormsAt wx aa q.adds /\ FormsAt wx ta q.tells) \/ (bb = .bool false /\ (rowsL sx).find? (sureR m C D ts s E U) = none)))
   case first =>
    refine wp_region_ends (fun X => (X.cell? ⟨X15, 0, none⟩ = some (.slice a 3 cap) /\ X.cell? ⟨X15, 1, none⟩ = some (.slice c m cap') /\ X.cell? ⟨X15, 2, none⟩ = some (.slice (some ⟨G, 0, none⟩) (catP ss).length cG) /\ X.cell? ⟨X15, 3, none⟩ = some (.int .i64 s) /\ X.cell? ⟨X15, 4, none⟩ = some (.slice e 3 ec) /\ X.cell? ⟨X15, 5, none⟩ = some (.slice u 2 uc) /\ X.cell? ⟨ab, ao + kn, none⟩ = some (.slice sa sn sc))) (fun _ => True) 10 (by kernel_rfl) ?_;have d0 : Below v8.heap.size v8 v8.drew := (Below.refl _ _).drew;have p0 := q15.below d0;have v0 := hv.below d0;have L0 := hLi.below d0;have a0 := hAt.below d0;generalize v8.drew = V0 at d0 p0 v0 L0 a0 ⊢;have hSS : ((V0.cell? ⟨X15, 0, none⟩ = some (.slice a 3 cap) /\ V0.cell? ⟨X15, 1, none⟩ = some (.slice c m cap') /\ V0.cell? ⟨X15, 2, none⟩ = some (.slice (some ⟨G, 0, none⟩) (catP ss).length cG) /\ V0.cell? ⟨X15, 3, none⟩ = some (.int .i64 s) /\ V0.cell? ⟨X15, 4, none⟩ = some (.slice e 3 ec) /\ V0.cell? ⟨X15, 5, none⟩ = some (.slice u 2 uc) /\ V0.cell? ⟨ab, ao + kn, none⟩ = some (.slice sa sn sc))) /\ True := ⟨⟨p0.cell 0, p0.cell 1, p0.cell 2, p0.cell 3, p0.cell 4, p0.cell 5, a0⟩, trivial⟩
    refine tkl 0 rfl hSS ?_;refine tkl 1 rfl hSS ?_;refine tkl 2 rfl hSS ?_;refine tkl 3 rfl hSS ?_;refine tkl 4 rfl hSS ?_;simp only [Act.put, qA, qC, qB, qH, qE, qD];refine wo2 5 9 rfl rfl (fun K hK => ?_) fun K hK => ?_
    ·skip
     go_simp;refine (isure_any a cap c m cap' G (catP ss).length cG s e ec u uc C D E U ts sa sn sc sx V0 v0 hb HXL.out L0 hsn' HAC.out).mono ?_;rintro ee V1 ⟨bS, hS⟩;have d2 := btr d0 bS;have sV := d2.size;replace p0 := p0.below bS;replace a0 := a0.below bS
     rcases hS with ⟨v, q, rfl, hq, ga, gc, aa, ac, ta, tc, rfl, f0, f1, f2⟩ | ⟨hq, rfl⟩
     ·skip
      have HQ : Hid ((rowsL sx).find? (sureR m C D ts s E U) = some q) := hq;clear hq;(try dsimp only);clear hSS;have hSS : ((V1.cell? ⟨X15, 0, none⟩ = some (.slice a 3 cap) /\ V1.cell? ⟨X15, 1, none⟩ = some (.slice c m cap') /\ V1.cell? ⟨X15, 2, none⟩ = some (.slice (some ⟨G, 0, none⟩) (catP ss).length cG) /\ V1.cell? ⟨X15, 3, none⟩ = some (.int .i64 s) /\ V1.cell? ⟨X15, 4, none⟩ = some (.slice e 3 ec) /\ V1.cell? ⟨X15, 5, none⟩ = some (.slice u 2 uc) /\ V1.cell? ⟨ab, ao + kn, none⟩ = some (.slice sa sn sc))) /\ True := ⟨⟨p0.cell 0, p0.cell 1, p0.cell 2, p0.cell 3, p0.cell 4, p0.cell 5, a0⟩, trivial⟩
      refine kk0 hK (hSS.1) ?_;refine tkl 6 rfl hSS ?_;refine tkl 7 rfl hSS ?_;refine tkl 8 rfl hSS ?_;simp only [Act.put, qA, qC, qB, qH, qE, qD];refine wo1 9 rfl fun K hK => ?_;go_simp;obtain ⟨V2, hV2⟩ : ∃ W, W = V1.alloc (.cells #[.slice none 0 0, .slice none 0 0, .slice none 0 0, .bool false] 113) := ⟨_, rfl⟩
      have AL : Below V1.heap.size V1 V2 := by rw [hV2]; exact bal
      have xb : Cel V2 V1.heap.size [.slice none 0 0, .slice none 0 0, .slice none 0 0, .bool false] 113 := by rw [hV2]; exact Cel.new V1 _ _
      have d1 := btr d2 AL;have lV := d2.size;have lXV := xb.lt;replace p0 := p0.below AL;replace a0 := a0.below AL;rw [<- hV2];clear hSS;have hSS : ((V2.cell? ⟨X15, 0, none⟩ = some (.slice a 3 cap) /\ V2.cell? ⟨X15, 1, none⟩ = some (.slice c m cap') /\ V2.cell? ⟨X15, 2, none⟩ = some (.slice (some ⟨G, 0, none⟩) (catP ss).length cG) /\ V2.cell? ⟨X15, 3, none⟩ = some (.int .i64 s) /\ V2.cell? ⟨X15, 4, none⟩ = some (.slice e 3 ec) /\ V2.cell? ⟨X15, 5, none⟩ = some (.slice u 2 uc) /\ V2.cell? ⟨ab, ao + kn, none⟩ = some (.slice sa sn sc))) /\ True := ⟨⟨p0.cell 0, p0.cell 1, p0.cell 2, p0.cell 3, p0.cell 4, p0.cell 5, a0⟩, trivial⟩
      refine kk0 hK (hSS.1) ?_;clear hV2;have xS := ((((xb.set 0 (.slice ga q.guards.length gc)).set 1 (.slice aa q.adds.length ac)).set 2 (.slice ta q.tells.length tc)).set 3 (.bool q.stop))
      simp only [qB, qC] at xS;have T := ((((Touch.refl (fun z => z = V1.heap.size) V2).setCell (B := V1.heap.size) (i := 0) rfl (.slice ga q.guards.length gc)).setCell (B := V1.heap.size) (i := 1) rfl (.slice aa q.adds.length ac)).setCell (B := V1.heap.size) (i := 2) rfl (.slice ta q.tells.length tc)).setCell (B := V1.heap.size) (i := 3) rfl (.bool q.stop);have y0 := xb.cell 0;have y1 := xb.cell 1;have y2 := xb.cell 2;have y3 := xb.cell 3;have z0 := xb.free 0;have z1 := xb.free 1;have z2 := xb.free 2;have z3 := xb.free 3;have lX := xb.lt;simp only [qF, qG] at y0 y1 y2 y3;have pS := cel_past p0 T;have aS := a0.past T (by omega);have dS := d1.trans (T.below (B := v8.heap.size) (by omega) (fun z hz => by have hz : z = V1.heap.size := hz; omega));have KX := (KpR.of AL).trans (kpR_row xb T);have g0 := f0.keepR KX;have g1 := f1.keepR KX;have g2 := f2.keepR KX;clear f0 f1 f2 KX;refine wo1 10 rfl fun K hK => ?_;go_simp;refine hK.out _ _ ⟨⟨pS.cell 0, pS.cell 1, pS.cell 2, pS.cell 3, pS.cell 4, pS.cell 5, aS⟩, fun _ => trivial⟩ ?_;refine wo1 11 rfl fun K hK => ?_;go_simp;refine hK.out _ _ ⟨⟨pS.cell 0, pS.cell 1, pS.cell 2, pS.cell 3, pS.cell 4, pS.cell 5, aS⟩, fun _ => trivial⟩ ?_;refine wod ?_ _;clear y0 y1 y2 y3 z0 z1 z2 z3 T xb hSS
      go_wp2_with fail
      go_meet
      case rel => exact ⟨V1.heap.size, rfl, dS, by omega, Or.inl ⟨q, rfl, HQ.out, ga, gc, aa, ac, ta, tc, xS, g0, g1, g2⟩⟩
     skip
     have HQ : Hid ((rowsL sx).find? (sureR m C D ts s E U) = none) := hq;clear hq;(try dsimp only);clear hSS;have hSS : ((V1.cell? ⟨X15, 0, none⟩ = some (.slice a 3 cap) /\ V1.cell? ⟨X15, 1, none⟩ = some (.slice c m cap') /\ V1.cell? ⟨X15, 2, none⟩ = some (.slice (some ⟨G, 0, none⟩) (catP ss).length cG) /\ V1.cell? ⟨X15, 3, none⟩ = some (.int .i64 s) /\ V1.cell? ⟨X15, 4, none⟩ = some (.slice e 3 ec) /\ V1.cell? ⟨X15, 5, none⟩ = some (.slice u 2 uc) /\ V1.cell? ⟨ab, ao + kn, none⟩ = some (.slice sa sn sc))) /\ True := ⟨⟨p0.cell 0, p0.cell 1, p0.cell 2, p0.cell 3, p0.cell 4, p0.cell 5, a0⟩, trivial⟩
     refine kk0 hK (hSS.1) ?_;refine tkl 6 rfl hSS ?_;refine tkl 7 rfl hSS ?_;refine tkl 8 rfl hSS ?_;simp only [Act.put, qA, qC, qB, qH, qE, qD];refine wo1 9 rfl fun K hK => ?_;go_simp;obtain ⟨V2, hV2⟩ : ∃ W, W = V1.alloc (.cells #[.slice none 0 0, .slice none 0 0, .slice none 0 0, .bool false] 113) := ⟨_, rfl⟩
     have AL : Below V1.heap.size V1 V2 := by rw [hV2]; exact bal
     have xb : Cel V2 V1.heap.size [.slice none 0 0, .slice none 0 0, .slice none 0 0, .bool false] 113 := by rw [hV2]; exact Cel.new V1 _ _
     have d1 := btr d2 AL;have lV := d2.size;have lXV := xb.lt;replace p0 := p0.below AL;replace a0 := a0.below AL;rw [<- hV2];clear hSS;have hSS : ((V2.cell? ⟨X15, 0, none⟩ = some (.slice a 3 cap) /\ V2.cell? ⟨X15, 1, none⟩ = some (.slice c m cap') /\ V2.cell? ⟨X15, 2, none⟩ = some (.slice (some ⟨G, 0, none⟩) (catP ss).length cG) /\ V2.cell? ⟨X15, 3, none⟩ = some (.int .i64 s) /\ V2.cell? ⟨X15, 4, none⟩ = some (.slice e 3 ec) /\ V2.cell? ⟨X15, 5, none⟩ = some (.slice u 2 uc) /\ V2.cell? ⟨ab, ao + kn, none⟩ = some (.slice sa sn sc))) /\ True := ⟨⟨p0.cell 0, p0.cell 1, p0.cell 2, p0.cell 3, p0.cell 4, p0.cell 5, a0⟩, trivial⟩
     refine kk0 hK (hSS.1) ?_;clear hV2;have xS := ((((xb.set 0 (.slice none 0 0)).set 1 (.slice none 0 0)).set 2 (.slice none 0 0)).set 3 (.bool false))
     simp only [qB, qC] at xS;have T := ((((Touch.refl (fun z => z = V1.heap.size) V2).setCell (B := V1.heap.size) (i := 0) rfl (.slice none 0 0)).setCell (B := V1.heap.size) (i := 1) rfl (.slice none 0 0)).setCell (B := V1.heap.size) (i := 2) rfl (.slice none 0 0)).setCell (B := V1.heap.size) (i := 3) rfl (.bool false);have y0 := xb.cell 0;have y1 := xb.cell 1;have y2 := xb.cell 2;have y3 := xb.cell 3;have z0 := xb.free 0;have z1 := xb.free 1;have z2 := xb.free 2;have z3 := xb.free 3;have lX := xb.lt;simp only [qF, qG] at y0 y1 y2 y3;have pS := cel_past p0 T;have aS := a0.past T (by omega);have dS := d1.trans (T.below (B := v8.heap.size) (by omega) (fun z hz => by have hz : z = V1.heap.size := hz; omega));refine wo1 10 rfl fun K hK => ?_;go_simp;refine hK.out _ _ ⟨⟨pS.cell 0, pS.cell 1, pS.cell 2, pS.cell 3, pS.cell 4, pS.cell 5, aS⟩, fun _ => trivial⟩ ?_;refine wo1 11 rfl fun K hK => ?_;go_simp;refine hK.out _ _ ⟨⟨pS.cell 0, pS.cell 1, pS.cell 2, pS.cell 3, pS.cell 4, pS.cell 5, aS⟩, fun _ => trivial⟩ ?_;refine wod ?_ _;clear y0 y1 y2 y3 z0 z1 z2 z3 T xb hSS
     go_wp2_with fail
     go_meet
     case rel => exact ⟨V1.heap.size, rfl, dS, by omega, Or.inr ⟨rfl, HQ.out⟩⟩
    skip
    go_simp;obtain ⟨V2, hV2⟩ : ∃ W, W = V0.alloc (.cells #[.slice none 0 0, .slice none 0 0, .slice none 0 0, .bool false] 113) := ⟨_, rfl⟩
    have AL : Below V0.heap.size V0 V2 := by rw [hV2]; exact bal
    have xb : Cel V2 V0.heap.size [.slice none 0 0, .slice none 0 0, .slice none 0 0, .bool false] 113 := by rw [hV2]; exact Cel.new V0 _ _
    have d1 := btr d0 AL;have lV := d0.size;have lXV := xb.lt;replace p0 := p0.below AL;replace a0 := a0.below AL;rw [<- hV2];clear hSS;have hSS : ((V2.cell? ⟨X15, 0, none⟩ = some (.slice a 3 cap) /\ V2.cell? ⟨X15, 1, none⟩ = some (.slice c m cap') /\ V2.cell? ⟨X15, 2, none⟩ = some (.slice (some ⟨G, 0, none⟩) (catP ss).length cG) /\ V2.cell? ⟨X15, 3, none⟩ = some (.int .i64 s) /\ V2.cell? ⟨X15, 4, none⟩ = some (.slice e 3 ec) /\ V2.cell? ⟨X15, 5, none⟩ = some (.slice u 2 uc) /\ V2.cell? ⟨ab, ao + kn, none⟩ = some (.slice sa sn sc))) /\ True := ⟨⟨p0.cell 0, p0.cell 1, p0.cell 2, p0.cell 3, p0.cell 4, p0.cell 5, a0⟩, trivial⟩
    refine kk0 hK (hSS.1) ?_;clear hV2;replace v0 := v0.below AL;replace L0 := L0.below AL;refine wo1 5 rfl fun K hK => ?_;go_simp;refine (isure_any a cap c m cap' G (catP ss).length cG s e ec u uc C D E U ts sa sn sc sx V2 v0 hb HXL.out L0 hsn' HAC.out).mono ?_;rintro ee V1 ⟨bS, hS⟩;have d2 := btr d1 bS;have sV := d2.size;replace p0 := p0.below bS;replace a0 := a0.below bS;replace xb := xb.below bS
    rcases hS with ⟨v, q, rfl, hq, ga, gc, aa, ac, ta, tc, rfl, f0, f1, f2⟩ | ⟨hq, rfl⟩
    ·skip
     have HQ : Hid ((rowsL sx).find? (sureR m C D ts s E U) = some q) := hq;clear hq;(try dsimp only);clear hSS;have hSS : ((V1.cell? ⟨X15, 0, none⟩ = some (.slice a 3 cap) /\ V1.cell? ⟨X15, 1, none⟩ = some (.slice c m cap') /\ V1.cell? ⟨X15, 2, none⟩ = some (.slice (some ⟨G, 0, none⟩) (catP ss).length cG) /\ V1.cell? ⟨X15, 3, none⟩ = some (.int .i64 s) /\ V1.cell? ⟨X15, 4, none⟩ = some (.slice e 3 ec) /\ V1.cell? ⟨X15, 5, none⟩ = some (.slice u 2 uc) /\ V1.cell? ⟨ab, ao + kn, none⟩ = some (.slice sa sn sc))) /\ True := ⟨⟨p0.cell 0, p0.cell 1, p0.cell 2, p0.cell 3, p0.cell 4, p0.cell 5, a0⟩, trivial⟩
     refine kk0 hK (hSS.1) ?_;refine tkl 6 rfl hSS ?_;refine tkl 7 rfl hSS ?_;refine tkl 8 rfl hSS ?_;simp only [Act.put, qA, qC, qB, qH, qE, qD];have xS := ((((xb.set 0 (.slice ga q.guards.length gc)).set 1 (.slice aa q.adds.length ac)).set 2 (.slice ta q.tells.length tc)).set 3 (.bool q.stop))
     simp only [qB, qC] at xS;have T := ((((Touch.refl (fun z => z = V0.heap.size) V1).setCell (B := V0.heap.size) (i := 0) rfl (.slice ga q.guards.length gc)).setCell (B := V0.heap.size) (i := 1) rfl (.slice aa q.adds.length ac)).setCell (B := V0.heap.size) (i := 2) rfl (.slice ta q.tells.length tc)).setCell (B := V0.heap.size) (i := 3) rfl (.bool q.stop);have y0 := xb.cell 0;have y1 := xb.cell 1;have y2 := xb.cell 2;have y3 := xb.cell 3;have z0 := xb.free 0;have z1 := xb.free 1;have z2 := xb.free 2;have z3 := xb.free 3;have lX := xb.lt;simp only [qF, qG] at y0 y1 y2 y3;have pS := cel_past p0 T;have aS := a0.past T (by omega);have dS := d2.trans (T.below (B := v8.heap.size) (by omega) (fun z hz => by have hz : z = V0.heap.size := hz; omega));have KX := kpR_row xb T;have g0 := f0.keepR KX;have g1 := f1.keepR KX;have g2 := f2.keepR KX;clear f0 f1 f2 KX;refine wo1 10 rfl fun K hK => ?_;go_simp;refine hK.out _ _ ⟨⟨pS.cell 0, pS.cell 1, pS.cell 2, pS.cell 3, pS.cell 4, pS.cell 5, aS⟩, fun _ => trivial⟩ ?_;refine wo1 11 rfl fun K hK => ?_;go_simp;refine hK.out _ _ ⟨⟨pS.cell 0, pS.cell 1, pS.cell 2, pS.cell 3, pS.cell 4, pS.cell 5, aS⟩, fun _ => trivial⟩ ?_;refine wod ?_ _;clear y0 y1 y2 y3 z0 z1 z2 z3 T xb hSS
     go_wp2_with fail
     go_meet
     case rel => exact ⟨V0.heap.size, rfl, dS, by omega, Or.inl ⟨q, rfl, HQ.out, ga, gc, aa, ac, ta, tc, xS, g0, g1, g2⟩⟩
    skip
    have HQ : Hid ((rowsL sx).find? (sureR m C D ts s E U) = none) := hq;clear hq;(try dsimp only);clear hSS;have hSS : ((V1.cell? ⟨X15, 0, none⟩ = some (.slice a 3 cap) /\ V1.cell? ⟨X15, 1, none⟩ = some (.slice c m cap') /\ V1.cell? ⟨X15, 2, none⟩ = some (.slice (some ⟨G, 0, none⟩) (catP ss).length cG) /\ V1.cell? ⟨X15, 3, none⟩ = some (.int .i64 s) /\ V1.cell? ⟨X15, 4, none⟩ = some (.slice e 3 ec) /\ V1.cell? ⟨X15, 5, none⟩ = some (.slice u 2 uc) /\ V1.cell? ⟨ab, ao + kn, none⟩ = some (.slice sa sn sc))) /\ True := ⟨⟨p0.cell 0, p0.cell 1, p0.cell 2, p0.cell 3, p0.cell 4, p0.cell 5, a0⟩, trivial⟩
    refine kk0 hK (hSS.1) ?_;refine tkl 6 rfl hSS ?_;refine tkl 7 rfl hSS ?_;refine tkl 8 rfl hSS ?_;simp only [Act.put, qA, qC, qB, qH, qE, qD];have xS := ((((xb.set 0 (.slice none 0 0)).set 1 (.slice none 0 0)).set 2 (.slice none 0 0)).set 3 (.bool false))
    simp only [qB, qC] at xS;have T := ((((Touch.refl (fun z => z = V0.heap.size) V1).setCell (B := V0.heap.size) (i := 0) rfl (.slice none 0 0)).setCell (B := V0.heap.size) (i := 1) rfl (.slice none 0 0)).setCell (B := V0.heap.size) (i := 2) rfl (.slice none 0 0)).setCell (B := V0.heap.size) (i := 3) rfl (.bool false);have y0 := xb.cell 0;have y1 := xb.cell 1;have y2 := xb.cell 2;have y3 := xb.cell 3;have z0 := xb.free 0;have z1 := xb.free 1;have z2 := xb.free 2;have z3 := xb.free 3;have lX := xb.lt;simp only [qF, qG] at y0 y1 y2 y3;have pS := cel_past p0 T;have aS := a0.past T (by omega);have dS := d2.trans (T.below (B := v8.heap.size) (by omega) (fun z hz => by have hz : z = V0.heap.size := hz; omega));refine wo1 10 rfl fun K hK => ?_;go_simp;refine hK.out _ _ ⟨⟨pS.cell 0, pS.cell 1, pS.cell 2, pS.cell 3, pS.cell 4, pS.cell 5, aS⟩, fun _ => trivial⟩ ?_;refine wo1 11 rfl fun K hK => ?_;go_simp;refine hK.out _ _ ⟨⟨pS.cell 0, pS.cell 1, pS.cell 2, pS.cell 3, pS.cell 4, pS.cell 5, aS⟩, fun _ => trivial⟩ ?_;refine wod ?_ _;clear y0 y1 y2 y3 z0 z1 z2 z3 T xb hSS
    go_wp2_with fail
    go_meet
    case rel => exact ⟨V0.heap.size, rfl, dS, by omega, Or.inr ⟨rfl, HQ.out⟩⟩
   case rest =>
    obtain ⟨X17, rfl, b17, lo17, hcase⟩ := hcut;replace BB := btr BB b17;replace hA := hA.below b17;replace hC := hC.below b17;replace hD := hD.below b17;replace hE := hE.below b17;replace hU := hU.below b17;replace hPG := hPG.below b17;replace oP := oP.below b17;replace hv := hv.below b17;replace hLi := hLi.below b17;replace q7 := q7.below b17;replace q12 := q12.below b17;replace q15 := q15.below b17;clear b17;have lX12d := q12.lt
    rcases hcase with ⟨q, rfl, hq, ga, gc, aa, ac, ta, tc, q17, f0, f1, f2⟩ | ⟨rfl, hq⟩
    ·have HQ : Hid ((rowsL sx).find? (sureR m C D ts s E U) = some q) := hq;clear hq;have hmem : q ∈ rowsL sx := List.mem_of_find?_eq_some HQ.out;have hp := actB_parts HAC.out;obtain ⟨gs, us, vs, RA, hB, eg, ea, et⟩ := row_rowAt (rowsL_fit (by rw [HXL.out]; exact hp.1) hp.2 hLi q hmem) (goW_sh sx 7 0 way0 q hmem) f0 f1 f2;clear f0 f1 f2 hmem hp eg;have EA : Hid (q.adds.map (atX C U) = us.map (atF C U)) := by (show _ = _; rw [<- ea, List.map_map]; rfl)
     have ET : Hid (q.tells.map (atX C U) = vs.map (atF C U)) := by (show _ = _; rw [<- et, List.map_map]; rfl)
     clear ea et;obtain ⟨g7_0, g7_1⟩ := q7.c2;obtain ⟨g12_0, g12_1⟩ := q12.c2;obtain ⟨g15_0, g15_1, g15_2, g15_3, g15_4, g15_5⟩ := q15.c6;obtain ⟨g17_0, g17_1, g17_2, g17_3⟩ := q17.c4
     go_wp2_with fail
     refine (itry_any a cap c m cap' G (catP ss).length cG s e ec u uc C D E U ts ga q.guards.length gc gs aa q.adds.length ac us ta q.tells.length tc vs q.stop P cP (pinsA ss) hv hb hps hs0 hs1 RA hB oP).mono ?_;rintro ee w9 hL;obtain ⟨x, hx⟩ : ∃ x, tryL m C D ts s E U (pinsA ss) q.stop (us.map (atF C U)) (vs.map (atF C U)) = x := ⟨_, rfl⟩
     have HX : Hid (tryL m C D ts s E U (pinsA ss) q.stop (us.map (atF C U)) (vs.map (atF C U)) = x) := hx;rw [hx] at hL;clear hx;obtain ⟨x1, x2, x3, x4⟩ := x;obtain ⟨xa, xn, xcap, XB, ya, yn, ycap, YB, rfl, hl1, hl2, bT, o1, o2, lo1, lo2, hne⟩ := hL;have HL1 : Hid (x2.length = xn) := hl1;have HL2 : Hid (x3.length = yn) := hl2;clear hl1 hl2;clear g7_0 g7_1 g12_0 g12_1 g15_0 g15_1 g15_2 g15_3 g15_4 g15_5 g17_0 g17_1 g17_2 g17_3;replace BB := btr BB bT;replace hA := hA.below bT;replace hC := hC.below bT;replace hD := hD.below bT;replace hE := hE.below bT;replace hU := hU.below bT;replace hPG := hPG.below bT;replace oP := oP.below bT;replace hv := hv.below bT;replace hLi := hLi.below bT;replace RA := RA.below bT;replace q7 := q7.below bT;replace q12 := q12.below bT;replace q15 := q15.below bT;replace q17 := q17.below bT;clear bT;obtain ⟨g12_0, g12_1⟩ := q12.c2;have f12_0 := q12.free 0;have f12_1 := q12.free 1;have l12 := q12.lt;have z12 := (q12.set 0 (.int .i64 x1)).set 1 (.slice xa xn xcap);have z120 := z12.cell 0;have z121 := z12.cell 1;simp only [qF, qG, qB, qC] at z120 z121;clear z12;have hBB := (BB.setCell (p := ⟨X12, 0, none⟩) (by simp only []; omega) (.int .i64 x1)).setCell (p := ⟨X12, 1, none⟩) (by simp only []; omega) (.slice xa xn xcap)
     have o_o1 := (o1.setOther (X := X12) (fun h => by have := lo1 h; omega) 0 (.int .i64 x1)).setOther (X := X12) (fun h => by have := lo1 h; omega) 1 (.slice xa xn xcap);have o_o2 := (o2.setOther (X := X12) (fun h => by have := lo2 h; omega) 0 (.int .i64 x1)).setOther (X := X12) (fun h => by have := lo2 h; omega) 1 (.slice xa xn xcap);have HR : Hid (R = (x1, x2, x3, x4)) := by (show _ = _; rw [<- HR0.out]; simp [locL, HP4.out.1, HP4.out.2.1, HP4.out.2.2, E1.out, E2.out, E3.out, h5, h6, h7, HSX.out, HQ.out, tryR, E4.out, EA.out, ET.out, HX.out])
     go_wp2
     exact bodyPost_ret (v := .tuple #[resV x1 xa xn xcap, .slice ya yn ycap, .bool x4]) (by simp [results, Tryz.results51, go_sem, z120, z121]) rfl (by rw [HR.out]; unfold LocD; exact ⟨xa, xn, xcap, XB, ya, yn, ycap, YB, rfl, HL1.out, HL2.out, hBB, o_o1, o_o2, fun h => by have := lo1 h; omega, fun h => by have := lo2 h; omega, hne⟩)
    have HQ : Hid ((rowsL sx).find? (sureR m C D ts s E U) = none) := hq;clear hq;have HE3 : Hid (E.length = 3) := hE.1;obtain ⟨g7_0, g7_1⟩ := q7.c2;obtain ⟨g12_0, g12_1⟩ := q12.c2;obtain ⟨g15_0, g15_1, g15_2, g15_3, g15_4, g15_5⟩ := q15.c6
    go_wp2_with fail
    refine (clone_any _ _ E hE).mono ?_;rintro ee w9 ⟨vE, rfl, jE⟩;obtain ⟨ea, ecap, EB, rfl, oE, loE⟩ := jE.ownx HE3.out;have bE2 := jE.b;clear jE;clear g7_0 g7_1 g12_0 g12_1 g15_0 g15_1 g15_2 g15_3 g15_4 g15_5;replace BB := btr BB bE2;replace hA := hA.below bE2;replace hC := hC.below bE2;replace hD := hD.below bE2;replace hE := hE.below bE2;replace hU := hU.below bE2;replace hPG := hPG.below bE2;replace oP := oP.below bE2;replace hv := hv.below bE2;replace hLi := hLi.below bE2;replace q7 := q7.below bE2;replace q12 := q12.below bE2;replace q15 := q15.below bE2;clear bE2;obtain ⟨g12_0, g12_1⟩ := q12.c2;have f12_0 := q12.free 0;have f12_1 := q12.free 1;have l12 := q12.lt;have z12 := (q12.set 0 (.int .i64 0)).set 1 (.slice none 0 0);have z120 := z12.cell 0;have z121 := z12.cell 1;simp only [qF, qG, qB, qC] at z120 z121;clear z12;have hBB := (BB.setCell (p := ⟨X12, 0, none⟩) (by simp only []; omega) (.int .i64 0)).setCell (p := ⟨X12, 1, none⟩) (by simp only []; omega) (.slice none 0 0);have o_oE := (oE.setOther (X := X12) (fun h => by have := loE h; omega) 0 (.int .i64 0)).setOther (X := X12) (fun h => by have := loE h; omega) 1 (.slice none 0 0);have HR : Hid (R = (0, [], E, false)) := by (show _ = _; rw [<- HR0.out]; simp [locL, HP4.out.1, HP4.out.2.1, HP4.out.2.2, E1.out, E2.out, E3.out, h5, h6, h7, HSX.out, HQ.out])
    go_wp2
    exact bodyPost_ret (v := .tuple #[resV 0 none 0 0, .slice ea 3 ecap, .bool false]) (by simp [results, Tryz.results51, go_sem, z120, z121]) rfl (by rw [HR.out]; unfold LocD; exact ⟨none, 0, 0, 0, ea, 3, ecap, EB, rfl, rfl, HE3.out, hBB, OwnX.nil _ _ 0, o_oE, fun h => absurd h (by omega), fun h => by have := loE h; omega, fun h _ => absurd h (by omega)⟩)
  clear g7_0 g7_1 g12_0 g12_1 g15_0 g15_1 g15_2 g15_3 g15_4 g15_5;obtain ⟨g12_0, g12_1⟩ := q12.c2;have f12_0 := q12.free 0;have f12_1 := q12.free 1;have l12 := q12.lt;have z12 := (q12.set 0 (.int .i64 0)).set 1 (.slice none 0 0);have z120 := z12.cell 0;have z121 := z12.cell 1;simp only [qF, qG, qB, qC] at z120 z121;clear z12;have hBB := (BB.setCell (p := ⟨X12, 0, none⟩) (by simp only []; omega) (.int .i64 0)).setCell (p := ⟨X12, 1, none⟩) (by simp only []; omega) (.slice none 0 0);have HR : Hid (R = (0, [], [], false)) := by (show _ = _; rw [<- HR0.out]; simp [locL, HP4.out.1, HP4.out.2.1, HP4.out.2.2, E1.out, E2.out, h5, h6, h7])
  go_wp2
  exact bodyPost_ret (v := .tuple #[resV 0 none 0 0, .slice none 0 0, .bool false]) (by simp [results, Tryz.results51, go_sem, z120, z121]) rfl (by rw [HR.out]; unfold LocD; exact ⟨none, 0, 0, 0, none, 0, 0, 0, rfl, rfl, rfl, hBB, OwnX.nil _ _ 0, OwnX.nil _ _ 0, fun h => absurd h (by omega), fun h => absurd h (by omega), fun h _ => absurd h (by omega)⟩)
end Go.Proofs.YtfmpcihghlnlnaaGreatDoor
