/-
  Lemmas that the claim's last text rests on.
-/
import Derived.Test.YtfmpcihghlnlnaaGreatDoorQQ
namespace Go.Proofs.YtfmpcihghlnlnaaGreatDoor
open Go.RowKit Go.Deep
open World renaming size_alloc → qA
set_option linter.unusedVariables false
set_option maxRecDepth 100000
set_option maxHeartbeats 25600000
variable {W w : World} {a ad : Option Addr} {cap : Nat}
theorem icopied_any {c : Option Addr} {cap' : Nat} {K : Int} (C D : List Int) {w : World} (hC : Ints w a 3 C) (hD : Ints w c 2 D) :
  Calls Tryz.prog 220 #[formV a 3 cap c 2 cap' K] w fun e w' => ∃ B1 B2 c1 c2, e = .returned (formV (some ⟨B1, 0, none⟩) 3 c1 (some ⟨B2, 0, none⟩) 2 c2 K) /\ Below w.heap.size w w' /\ w.heap.size <= B1 /\ B1 ≠ B2 /\ w.heap.size <= B2 /\ Ints w' (some ⟨B1, 0, none⟩) 3 C /\ Ints w' (some ⟨B2, 0, none⟩) 2 D := by
 have H1 : TimesH w a cap c cap' K ((w.alloc (Obj.cells #[Value.slice a 3 cap, Value.slice c 2 cap', Value.int IntKind.i64 K] 106)).alloc (Obj.cells #[Value.slice none 0 0, Value.slice none 0 0, Value.int IntKind.i64 0] 106)) :=
  ⟨(Cel.new w _ _).alloc _, by have := Cel.new (w.alloc (Obj.cells #[Value.slice a 3 cap, Value.slice c 2 cap', Value.int IntKind.i64 K] 106)) [.slice none 0 0, .slice none 0 0, .int .i64 0] 106; rw [qA] at this; exact this, (bal).alloc (by simp) _⟩
 go_enter Tryz.func220, Tryz.ntmps220
 go_upto_region 1 with fail
 obtain ⟨W0, hW0⟩ : ∃ w2, w2 = (w.alloc (Obj.cells #[Value.slice a 3 cap, Value.slice c 2 cap', Value.int IntKind.i64 K] 106)).alloc (Obj.cells #[Value.slice none 0 0, Value.slice none 0 0, Value.int IntKind.i64 0] 106) := ⟨_, rfl⟩
 rw [<- hW0] at H1 ⊢;clear hW0;have KP : Hid (∀ W, Below W0.heap.size W0 W -> TimesH w a cap c cap' K W) := fun W hW => H1.below hW;have lr := H1.r.lt;have c0 : Below W0.heap.size W0 W0.drew := (Below.refl _ _).drew;have hSS : (W0.drew.cell? ⟨w.heap.size, 0, none⟩ = some (.slice a 3 cap) /\ W0.drew.cell? ⟨w.heap.size, 1, none⟩ = some (.slice c 2 cap') /\ W0.drew.cell? ⟨w.heap.size, 2, none⟩ = some (.int .i64 K)) /\ True := ⟨(KP.out _ c0).cells, trivial⟩
 have hb0 := H1.b;clear H1;refine wp_region_ends (fun w' => w'.cell? ⟨w.heap.size, 0, none⟩ = some (.slice a 3 cap) /\ w'.cell? ⟨w.heap.size, 1, none⟩ = some (.slice c 2 cap') /\ w'.cell? ⟨w.heap.size, 2, none⟩ = some (.int .i64 K)) (fun _ => True) 9 (by kernel_rfl) ?_;refine tkl 0 rfl hSS ?_;refine tkl 1 rfl hSS ?_;refine tkl 3 rfl hSS ?_;refine tkl 4 rfl hSS ?_;refine tkl 6 rfl hSS ?_;refine tkl 7 rfl hSS ?_;clear hSS;have sb0 := hb0.size;refine wpAnyE_one (i := 2) (by kernel_rfl) rfl (fun K' hK => ?_);go_simp;refine (clone_any _ _ C ((hC.below hb0).below c0)).mono ?_;rintro ee w1 ⟨v1, rfl, j1⟩;have e1 := below_of_drew j1.b;obtain ⟨a1, p1, B1, rfl, o1, g1⟩ := j1.ownx hC.1;have i1 := o1.ints;obtain ⟨rfl, -, -⟩ := o1.pos (by omega);have y1 : W0.heap.size <= B1 := g1 (by omega);have l1 := o1.lt (by omega);clear j1 o1 g1;(try dsimp only);refine kk0 hK ((KP.out _ e1).cells) ?_;clear hK K';refine wpAnyE_one (i := 5) (by kernel_rfl) rfl (fun K' hK => ?_);go_simp;refine (clone_any _ _ D ((hD.below hb0).below e1)).mono ?_;rintro ee w2 ⟨v2, rfl, j2⟩;have e2 := e1.trans (j2.b.mono e1.size);have i1' := i1.below j2.b;obtain ⟨a2, p2, B2, rfl, o2, g2⟩ := j2.ownx hD.1;have i2 := o2.ints;obtain ⟨rfl, -, -⟩ := o2.pos (by omega);have y2 : w1.heap.size <= B2 := g2 (by omega);have l2 := o2.lt (by omega);have s1 := e1.size;have s2 := j2.b.size;clear j2 o2 g2 i1;(try dsimp only);refine kk0 hK ((KP.out _ e2).cells) ?_;clear hK K';refine wpAnyE_one (i := 8) (by kernel_rfl) rfl (fun K' hK => ?_)
 go_simp;refine kk0 hK ((KP.out _ e2).cells) ?_;clear hK K';have HY := KP.out _ e2;obtain ⟨r0, r1, r2, r3, r4, r5⟩ := HY.room;obtain ⟨s0', s1', s2', -, -, -⟩ := HY.r.trio;have T : Touch (fun z => z = w.heap.size + 1) w2 (((w2.setCell ⟨w.heap.size + 1, 0, none⟩ (.slice (some ⟨B1, 0, none⟩) 3 p1)).setCell ⟨w.heap.size + 1, 1, none⟩ (.slice (some ⟨B2, 0, none⟩) 2 p2)).setCell ⟨w.heap.size + 1, 2, none⟩ (.int .i64 K)) := (((Touch.refl (fun z => z = w.heap.size + 1) w2).setCell rfl _).setCell rfl _).setCell rfl _;have r6 := ((HY.r.set 0 (.slice (some ⟨B1, 0, none⟩) 3 p1)).set 1 (.slice (some ⟨B2, 0, none⟩) 2 p2)).set 2 (.int .i64 K);simp only [List.set_cons_zero, List.set_cons_succ] at r6;have p6 := HY.p.touch T (fun h => by have := h; omega);obtain ⟨h0, h1, h2, -, -, -⟩ := r6.trio;obtain ⟨x0, x1, x2, -, -, -⟩ := p6.trio;refine wpAnyE_one (i := 9) (by kernel_rfl) rfl (fun K' hK => ?_);go_simp;refine hK.out _ _ ⟨⟨x0, x1, x2⟩, fun h => absurd (show true = false from h) (by decide)⟩ ?_;clear hK K';refine wod ?_ _;have q1 := i1'.by T (fun b o e => by simp only [Option.some.injEq, Addr.mk.injEq, and_true] at e; omega);have q2 := i2.by T (fun b o e => by simp only [Option.some.injEq, Addr.mk.injEq, and_true] at e; omega);have BB := (hb0.trans (e2.mono hb0.size)).trans (T.below (by omega) (fun z hz => by omega));clear HY r0 r1 r2 r3 r4 r5 s0' s1' s2' r6 p6 x0 x1 x2 T i1' i2
 go_wp2
 refine bodyPost_ret (v := formV (some ⟨B1, 0, none⟩) 3 p1 (some ⟨B2, 0, none⟩) 2 p2 K) (by simp [results, Tryz.results220, go_sem, h0, h1, h2]) rfl ?_
 exact ⟨B1, B2, p1, p2, rfl, BB, by omega, by omega, by omega, q1, q2⟩
theorem Tryz.copiedForm (v : Value) (w : World) : (Go.method 375 106 v "loop.example/concord/impl.copied").run Tryz.prog w = .ok (220, v) w := by kernel_rfl
theorem icopiesBy_any {N : Nat} (fs : List Frm) {w : World} (hN : fs.length = N) (hF : FormsAt w ad fs) (hfit : ∀ k, k < N -> fitX 10000000 (fs[k]?.getD ([], [], 0))) (hN1 : N <= 1048576) :
  Calls Tryz.prog 178 #[.slice ad N cap, .func (.methodOf 106 "loop.example/concord/impl.copied") #[] #[]] w fun e w' => ∃ v xs, e = .returned v /\ JV w v N xs fs w' := by
 have HN : Hid (fs.length = N) := hN;have HFT : Hid _ := hfit;have HF : Hid (FormsAt w ad fs) := hF;clear hN hfit hF;obtain ⟨zi, hi, hz0, hz1, hz2⟩ := info_parts Tryz.infoForm;have hm := Tryz.copiedForm
 go_enter Tryz.func178, Tryz.ntmps178
 go_wp2_with fail
 go_loopw [5, 7, 10] (fun r _ i wr => ∃ (k : Nat) (xs : List Value), k <= N /\ i = .int .i64 k /\ JV w r k xs fs wr) (fun _ _ i _ => N - (intOf i).toNat)
 case atStart => exact ⟨0, [], Nat.zero_le _, rfl, JV.nil w _⟩
 case round =>
  obtain ⟨k, xs, hk, rfl, j⟩ := hrel
  by_cases hlt : k < N
  ·obtain ⟨va, vc, rfl⟩ := j.isSlice;have hlt' : (k : Int) < N := by omega
   obtain ⟨b, off, rfl, a', c', ca, cc, c0, c1, c2, iC, iD⟩ := (HF.out.keep j.b) k (by rw [HN.out]; exact hlt);have hfit := HFT.out k hlt;generalize HG : fs[k]?.getD ([], [], 0) = f at *;have HT : Hid (fs[k]?.getD ([], [], 0) = f) := HG;clear HG;obtain ⟨fC, fD, fK⟩ := f;have lC : fC.length = 3 := hfit.c;have lD : fD.length = 2 := hfit.d;simp only at c2 iC iD;clear hfit;have A1 : Below wr.heap.size wr (wr.alloc (.cells #[.slice a' 3 ca, .slice c' 2 cc, .int .i64 fK] 106)) := bal
   go_wp2_with fail
   refine (icopied_any fC fD (iC.below A1) (iD.below A1)).mono ?_;rintro ee w3 ⟨Z1, Z2, x0, y0, rfl, b3, z1, z2, z3, k1, k2⟩;rw [qA] at z1 z3;have b3' := A1.trans (b3.mono A1.size);have j3 := j.below b3';have sz := j.b.size;have sz3 := b3'.size;have A : Below w3.heap.size w3 (w3.alloc (.cells #[.slice (some ⟨Z1, 0, none⟩) 3 x0, .slice (some ⟨Z2, 0, none⟩) 2 y0, .int .i64 fK] 106)) := bal;have j4 := j3.below A;have k1' := k1.below A;have k2' := k2.below A;have n1 : (Value.slice va k vc).ownBlock ≠ some Z1 := fun e => by have := (j.own e).2; omega
   have n2 : (Value.slice va k vc).ownBlock ≠ some Z2 := fun e => by have := (j.own e).2; omega
   clear j j3 c0 c1 c2 iC iD A1 b3 b3'
   go_wp2_with (at_builtin; go_must (refine wpList_append_lies _ rfl (.tmp 14) (.tmp 18) 111 rfl w.heap.size 106 zi _ 3 56 Tryz.underlying111 hi hz0 hz1 hz2 rfl (by decide) (.slice va k vc) k xs rfl j4.o ⟨w3.heap.size, 0, none⟩ 1 1 [.slice (some ⟨Z1, 0, none⟩) 3 x0, .slice (some ⟨Z2, 0, none⟩) 2 y0, .int .i64 fK] rfl rfl (World.news_of_block (cs := #[.slice (some ⟨Z1, 0, none⟩) 3 x0, .slice (some ⟨Z2, 0, none⟩) 2 y0, .int .i64 fK]) (t := 106) (fr := (0, 0)) (heap_alloc_new w3 _)) (by simp [Value.oneCell']) (by omega) (by unfold maxLen; omega) (by omega) (by rw [qA]; omega) _ rfl ?_); intro g cp w4 hown hgrow hat hlt1)
   have j5 := j4.app hown hgrow hat rfl k1' k2' n1 n2 (by omega) (by omega) HT.out;clear hown hgrow hat j4 k1 k2 k1' k2'
   go_wp2
   go_roundw
   case rel => exact ⟨k + 1, _, by omega, by go_num, j5⟩
   case measure => simp [intOf]; omega
  obtain rfl : k = N := by omega
  go_wp2
  go_ret
  exact ⟨_, xs, rfl, j⟩
theorem icopies_any {N : Nat} (fs : List Frm) {w : World} (hN : fs.length = N) (hF : FormsAt w ad fs) (hfit : ∀ k, k < N -> fitX 10000000 (fs[k]?.getD ([], [], 0))) (hN1 : N <= 1048576) :
  Calls Tryz.prog 166 #[.slice ad N cap] w fun e w' => ∃ v xs, e = .returned v /\ JV w v N xs fs w' := by
 go_enter Tryz.func166, Tryz.ntmps166
 go_wp2_with fail
 refine (icopiesBy_any fs hN hF hfit hN1).mono ?_;rintro e w1 ⟨v, xs, rfl, j⟩
 go_wp2
 go_ret
 exact ⟨v, xs, rfl, j⟩
abbrev wayV (ga : Option Addr) (ng gc : Nat) (pa : Option Addr) (cp : Nat) (ta : Option Addr) (nt tc : Nat) (st : Bool) : Value := .agg #[.slice ga ng gc, .slice pa 3 cp, .slice ta nt tc, .bool st]
theorem resYes {w' : World} {e : Ending} {C D : List Int} {K : Int} (h : Res w w' e C D K) (hC : C.length = 3) (hD : D.length = 2) : ∃ B1 B2 c1 c2, e = .returned (formV (some ⟨B1, 0, none⟩) 3 c1 (some ⟨B2, 0, none⟩) 2 c2 K) /\ Below w.heap.size w w' /\ w.heap.size <= B1 /\ B1 ≠ B2 /\ w.heap.size <= B2 /\ Blk w' B1 C /\ Blk w' B2 D := by
 obtain ⟨a, n, cap, c, m, cap', B1, B2, rfl, L1, L2, b, o1, o2, g1, g2, g3⟩ := h;obtain rfl : n = 3 := by omega
 obtain rfl : m = 2 := by omega
 rcases o1 with h | ⟨rfl, k1⟩
 ·rw [h] at hC; cases hC
 rcases o2 with h | ⟨rfl, k2⟩
 ·rw [h] at hD; cases hD
 exact ⟨B1, B2, cap, cap', rfl, b, g1 (by omega), g3 (by omega) (by omega), g2 (by omega), k1, k2⟩
theorem iaddX_any {c : Option Addr} {cap' : Nat} (f : Frm) {a2 : Option Addr} {cap2 : Nat} {c2 : Option Addr} {cap2' : Nat} (g : Frm) {w : World} (hC : Ints w a 3 f.1) (hD : Ints w c 2 f.2.1) (hC2 : Ints w a2 3 g.1) (hD2 : Ints w c2 2 g.2.1) (h1 : fitX 10000000 f) (h2 : fitX 10000000 g) (h3 : fitX 10000000 (plusX f g)) :
  Calls Tryz.prog 179 #[formV a 3 cap c 2 cap' f.2.2, formV a2 3 cap2 c2 2 cap2' g.2.2] w fun e w' => ∃ B1 B2 c1 c2, e = .returned (formV (some ⟨B1, 0, none⟩) 3 c1 (some ⟨B2, 0, none⟩) 2 c2 (plusX f g).2.2) /\ Below w.heap.size w w' /\ w.heap.size <= B1 /\ B1 ≠ B2 /\ w.heap.size <= B2 /\ Blk w' B1 (plusX f g).1 /\ Blk w' B2 (plusX f g).2.1 := by
 have hok : addOk 3 2 f.1 f.2.1 f.2.2 3 2 g.1 g.2.1 g.2.2 = true := by
  have e3 : formB 3 2 (lin f.1 g.1 1) (lin f.2.1 g.2.1 1) (f.2.2 + 1 * g.2.2) = true := fit_ok h3;unfold addOk;rw [fit_ok h1, fit_ok h2, e3]; rfl
 refine (iadd_any a 3 cap c 2 cap' f.2.2 f.1 f.2.1 a2 3 cap2 c2 2 cap2' g.2.2 g.1 g.2.1 w hC hD hC2 hD2 (by omega) (by omega) (by omega) (by omega)).mono ?_;intro e w' h;rw [hok] at h
 exact resYes h h3.c h3.d
theorem lin_neg (xs ys : List Int) : lin xs (mulL (-1) ys) 1 = lin xs ys (-1) := by
 unfold lin mulL;rw [List.zipWith_map_right]
 congr 1
 funext x y
 omega
def negX (k : Nat) : Frm := (mulL (-1) (([0, 0, 0] : List Int).set k 1), mulL (-1) [0, 0], -1 * 0)
theorem plus_neg (f : Frm) (k : Nat) : plusX f (negX k) = lessX f k := by
 simp only [plusX, negX, lessX, lin_neg];rw [show f.2.2 + 1 * (-1 * 0) = f.2.2 + -1 * 0 by omega]
theorem negX_fit {k : Nat} (hk : k < 3) : fitX 1 (negX k) := by
 have b3 : bnd 1 (mulL (-1) (([0, 0, 0] : List Int).set k 1)) := fun i => by
  match k, hk, i with
  | 0, _, 0 => simp [mulL]
  | 0, _, 1 => simp [mulL]
  | 0, _, 2 => simp [mulL]
  | 0, _, i + 3 => simp [mulL]
  | 1, _, 0 => simp [mulL]
  | 1, _, 1 => simp [mulL]
  | 1, _, 2 => simp [mulL]
  | 1, _, i + 3 => simp [mulL]
  | 2, _, 0 => simp [mulL]
  | 2, _, 1 => simp [mulL]
  | 2, _, 2 => simp [mulL]
  | 2, _, i + 3 => simp [mulL]
 have b2 : bnd 1 (mulL (-1) ([0, 0] : List Int)) := fun i => by
  match i with
  | 0 => simp [mulL]
  | 1 => simp [mulL]
  | i + 2 => simp [mulL]
 exact ⟨by simp [negX, mulL], by simp [negX, mulL], b3, b2, by simp [negX], by simp [negX]⟩
theorem inegpot_any (k : Nat) (hk : k < 3) {a : Option Addr} {cap : Nat} {c : Option Addr} {cap' : Nat} {w : World} (hC : Ints w a 3 (([0, 0, 0] : List Int).set k 1)) (hD : Ints w c 2 [0, 0]) :
  Calls Tryz.prog 180 #[formV a 3 cap c 2 cap' 0, .int .i64 (-1)] w fun e w' => ∃ B1 B2 c1 c2, e = .returned (formV (some ⟨B1, 0, none⟩) 3 c1 (some ⟨B2, 0, none⟩) 2 c2 (negX k).2.2) /\ Below w.heap.size w w' /\ w.heap.size <= B1 /\ B1 ≠ B2 /\ w.heap.size <= B2 /\ Blk w' B1 (negX k).1 /\ Blk w' B2 (negX k).2.1 := by
 have h1 : formB 3 2 (([0, 0, 0] : List Int).set k 1) [0, 0] 0 = true := by
  match k, hk with
  | 0, _ => decide
  | 1, _ => decide
  | 2, _ => decide
 have h2 : formB 3 2 (negX k).1 (negX k).2.1 (negX k).2.2 = true := fit_ok ((negX_fit hk).mono (by omega))
 have hok : timOk 3 2 (([0, 0, 0] : List Int).set k 1) [0, 0] 0 (-1) = true := by
  unfold timOk;rw [h1];have h2' : formB 3 2 (mulL (-1) (([0, 0, 0] : List Int).set k 1)) (mulL (-1) [0, 0]) (-1 * 0) = true := h2;rw [h2']; rfl
 refine (itim_any a 3 cap c 2 cap' 0 (-1) w hC hD (by omega) (by omega)).mono ?_;intro e w' h;rw [hok] at h
 exact resYes h (negX_fit hk).c (negX_fit hk).d
theorem iadds_any (y : Way) {ga : Option Addr} {ng gc : Nat} {pa : Option Addr} {cp : Nat} {ta : Option Addr} {nt tc : Nat} {st : Bool} {w : World} (hp : y.pots.length = 3) (hP : FormsAt w pa y.pots) (fp : ∀ k, k < 3 -> fitX 9000000 (y.pots[k]?.getD noX)) :
  Calls Tryz.prog 167 #[wayV ga ng gc pa cp ta nt tc st] w fun e w' => ∃ v xs, e = .returned v /\ JV w v 3 xs (endW y).adds w' := by
 have HPL : Hid (y.pots.length = 3) := hp;have HFP : Hid _ := fp;have HP : Hid (FormsAt w pa y.pots) := hP;clear hp fp hP;obtain ⟨zi, hi, hz0, hz1, hz2⟩ := info_parts Tryz.infoForm;have B0 : Below w.heap.size w (w.alloc (.cells #[.slice ga ng gc, .slice pa 3 cp, .slice ta nt tc, .bool st] 200)) := bal;have j0 : JV w (.slice none 0 0) 0 [] (endW y).adds (w.alloc (.cells #[.slice ga ng gc, .slice pa 3 cp, .slice ta nt tc, .bool st] 200)) := (JV.nil w _).below B0
 go_enter Tryz.func167, Tryz.ntmps167
 go_wp2_with fail
 go_loopw [3, 4, 5, 9] (fun r _ _ i wr => ∃ (k : Nat) (xs : List Value), k <= 3 /\ i = .int .i64 k /\ JV w r k xs (endW y).adds wr) (fun _ _ _ i _ => 3 - (intOf i).toNat)
 case atStart => exact ⟨0, [], by omega, rfl, j0⟩
 case round =>
  clear j0 B0;obtain ⟨k, xs, hk, rfl, j⟩ := hrel
  by_cases hlt : k < 3
  ·obtain ⟨va, vc, rfl⟩ := j.isSlice;have hlt' : (k : Int) < 3 := by omega
   obtain ⟨b, off, rfl, a', c', ca, cc, c0, c1, c2, iC, iD⟩ := (HP.out.keep j.b) k (by rw [HPL.out]; exact hlt);have hfit : fitX 9000000 (y.pots[k]?.getD ([], [], 0)) := HFP.out k hlt;generalize HG : y.pots[k]?.getD ([], [], 0) = f at *
   have HT : Hid ((endW y).adds[k]?.getD ([], [], 0) = lessX f k) := by
    show _ = _
    rw [show (endW y).adds = (List.range 3).map (fun v => lessX (y.pots[v]?.getD noX) v) from rfl, List.getElem?_map, List.getElem?_range hlt]
    show lessX (y.pots[k]?.getD noX) k = _
    rw [show y.pots[k]?.getD noX = f from HG]
   clear HG;have fit1 : fitX 10000000 f := hfit.mono (by omega);have fit3 : fitX 10000000 (plusX f (negX k)) := (plusX_fit hfit (negX_fit hlt)).mono (by omega);have fit4 : fitX 10000000 (lessX f k) := by rw [<- plus_neg]; exact fit3
   have HF1 : Hid _ := fit1;have HF3 : Hid _ := fit3;have lC := fit4.c;have lD := fit4.d;have HPN : Hid (plusX f (negX k) = lessX f k) := plus_neg f k;clear hfit fit1 fit3 fit4;have A1 : Below wr.heap.size wr (wr.alloc (.cells #[.slice a' 3 ca, .slice c' 2 cc, .int .i64 f.2.2] 106)) := bal;have bx := Cel.new wr [.slice a' 3 ca, .slice c' 2 cc, .int .i64 f.2.2] 106
   go_upto_region 5 with fail
   have z0 : wr.heap.size < (wr.alloc (.cells #[.slice a' 3 ca, .slice c' 2 cc, .int .i64 f.2.2] 106)).heap.size := by rw [qA]; omega
   generalize (wr.alloc (.cells #[.slice a' 3 ca, .slice c' 2 cc, .int .i64 f.2.2] 106)) = W0 at *;have KP : Hid (∀ W, Below W0.heap.size W0 W -> Cel W wr.heap.size [.slice a' 3 ca, .slice c' 2 cc, .int .i64 f.2.2] 106) := fun W hW => bx.below hW
   have KQ : Hid (∀ W, Below W0.heap.size W0 W -> (W.cell? ⟨wr.heap.size, 0, none⟩ = some (.slice a' 3 ca) /\ W.cell? ⟨wr.heap.size, 1, none⟩ = some (.slice c' 2 cc) /\ W.cell? ⟨wr.heap.size, 2, none⟩ = some (.int .i64 f.2.2))) := fun W hW => by
    obtain ⟨n0, n1, n2, _, _, _⟩ := (KP.out W hW).trio
    exact ⟨n0, n1, n2⟩
   have jW := j.below A1;have iC0 := iC.below A1;have iD0 := iD.below A1;have e0 : Below W0.heap.size W0 W0.drew := (Below.refl _ _).drew;have hSS := And.intro (KQ.out _ e0) (True.intro);have OWN : Hid (∀ G : Nat, (Value.slice va k vc).ownBlock = some G -> G < wr.heap.size) := fun G e => (j.own e).2;have sw := jW.b.size;clear bx j iC iD c0 c1 c2 A1;refine wp_region_ends (fun w' => w'.cell? ⟨wr.heap.size, 0, none⟩ = some (.slice a' 3 ca) /\ w'.cell? ⟨wr.heap.size, 1, none⟩ = some (.slice c' 2 cc) /\ w'.cell? ⟨wr.heap.size, 2, none⟩ = some (.int .i64 f.2.2)) (fun _ => True) 8 (by kernel_rfl) ?_;refine tkl 0 rfl hSS ?_;refine tkl 1 rfl hSS ?_;refine tkl 2 rfl hSS ?_;clear hSS;refine wo1 3 rfl fun K hK => ?_;go_simp;refine (ipot_any).mono ?_;intro ee w1 hR;rw [potC_in (k : Int) k rfl, potD_in (k : Int)] at hR;obtain ⟨P1, P2, p1, p2, rfl, b1, -, -, -, u1, u2⟩ := resYes hR (by simp) rfl;have e1 := below_of_drew b1;clear hR b1;(try dsimp only);refine kk0 hK (KQ.out _ e1) ?_;refine wo1 4 rfl fun K hK => ?_;go_simp;refine (inegpot_any k hlt (u1.ints' (by simp)) (u2.ints' rfl)).mono ?_;rintro ee w2 ⟨N1, N2, q1, q2, rfl, b2, -, -, -, v1, v2⟩;have e2 := e1.trans (b2.mono e1.size);clear b2 u1 u2;(try dsimp only);refine kk0 hK (KQ.out _ e2) ?_;refine wo1 5 rfl fun K hK => ?_;go_simp;refine (iaddX_any f (negX k) (iC0.below e2) (iD0.below e2) (v1.ints' (by simp [negX, mulL])) (v2.ints' (by simp [negX, mulL])) HF1.out ((negX_fit hlt).mono (by omega)) HF3.out).mono ?_;rw [HPN.out]
   rintro ee w3 ⟨Z1, Z2, x0, y0, rfl, b3, z1, z2, z3, k1, k2⟩;have e3 := e2.trans (b3.mono e2.size);have s2 := e2.size;have s3 := b3.size;clear b3 v1 v2;(try dsimp only);refine kk0 hK (KQ.out _ e3) ?_;refine wo1 6 rfl fun K hK => ?_;go_simp;have A : Below w3.heap.size w3 (w3.alloc (.cells #[.slice (some ⟨Z1, 0, none⟩) 3 x0, .slice (some ⟨Z2, 0, none⟩) 2 y0, .int .i64 (lessX f k).2.2] 106)) := bal;have e4 := e3.trans (A.mono e3.size);have j4 := jW.below e4;have k1' := k1.below A;have k2' := k2.below A;have n1 : (Value.slice va k vc).ownBlock ≠ some Z1 := fun e => by have := OWN.out _ e; omega
   have n2 : (Value.slice va k vc).ownBlock ≠ some Z2 := fun e => by have := OWN.out _ e; omega
   refine kk0 hK (KQ.out _ e4) ?_;clear hK K jW;refine wo1 7 rfl fun K hK => ?_;rw [if_pos (by rfl)];refine wp_append_lies _ (.tmp 14) (.tmp 20) 111 rfl w.heap.size 106 zi _ 3 56 Tryz.underlying111 hi hz0 hz1 hz2 rfl (by omega) (.slice va k vc) k xs (by rfl) j4.o ⟨w3.heap.size, 0, none⟩ 1 1 [.slice (some ⟨Z1, 0, none⟩) 3 x0, .slice (some ⟨Z2, 0, none⟩) 2 y0, .int .i64 (lessX f k).2.2] (by rfl) (by rfl) (World.news_of_block (cs := #[.slice (some ⟨Z1, 0, none⟩) 3 x0, .slice (some ⟨Z2, 0, none⟩) 2 y0, .int .i64 (lessX f k).2.2]) (t := 106) (fr := (0, 0)) (heap_alloc_new w3 _)) (by simp [Value.oneCell']) (by omega) (by unfold maxLen; omega) (by omega) j4.b.size _ rfl ?_;intro g cpg w4 hown hgrow hat hltg;have j5 := j4.app hown hgrow hat rfl (k1'.ints' lC) (k2'.ints' lD) n1 n2 (by omega) (by omega) HT.out;have bx4 := (KP.out _ e4).grew hgrow (fun e => by have := OWN.out _ e; omega);obtain ⟨m0, m1, m2, -, -, -⟩ := bx4.trio;refine hK.out _ _ ⟨⟨m0, m1, m2⟩, fun _ => trivial⟩ ?_;clear hK K hown hgrow hat j4 k1 k2 k1' k2' n1 n2;refine wo1 8 rfl fun K hK => ?_;go_simp;refine hK.out _ _ ⟨⟨m0, m1, m2⟩, fun _ => trivial⟩ ?_;refine wod ?_ _;clear bx4 m0 m1 m2 KP KQ
   go_wp2
   go_roundw
   case rel => exact ⟨k + 1, _, by omega, by go_num, j5⟩
   case measure => simp [intOf]; omega
  obtain rfl : k = 3 := by omega
  go_wp2
  go_ret
  exact ⟨_, xs, rfl, j⟩
structure RowFit (r : RowM) : Prop where
 g : ∀ k, k < r.guards.length -> fitX 10000000 (r.guards[k]?.getD ([], [], 0))
 a : ∀ k, k < r.adds.length -> fitX 10000000 (r.adds[k]?.getD ([], [], 0))
 t : ∀ k, k < r.tells.length -> fitX 10000000 (r.tells[k]?.getD ([], [], 0))
 lg : r.guards.length <= 1000
 la : r.adds.length <= 3
 lt : r.tells.length <= 1000
theorem endW_fit {i : Nat} {y : Way} (h : WayOk i y) (hi : i <= 1000 := by omega) : RowFit (endW y) := by
 refine ⟨fun k hk => h.gf k hk, fun k hk => ?_, fun k hk => h.tf k hk, ?_, ?_, ?_⟩
 ·have hk3 : k < 3 := by
   have : (endW y).adds.length = 3 := by simp [endW]
   omega
  have e : (endW y).adds[k]?.getD ([], [], 0) = lessX (y.pots[k]?.getD noX) k := by
   rw [show (endW y).adds = (List.range 3).map (fun v => lessX (y.pots[v]?.getD noX) v) from rfl, List.getElem?_map, List.getElem?_range hk3]
   rfl
  rw [e, <- plus_neg];have h1 := h.pf k hk3;have h6 := wb_six (n := min i 6) (by omega);have hp := wb_pos (min i 6)
  exact (plusX_fit h1 (negX_fit hk3)).mono (by omega)
 ·show y.guards.length <= 1000; have := h.gl; omega
 ·simp [endW]
 show y.tells.length <= 1000; have := h.tl; omega
theorem stopW_fit {i : Nat} {y : Way} (h : WayOk i y) (hi : i <= 1000 := by omega) : RowFit (stopW y) :=
 ⟨fun k hk => h.gf k hk, fun k hk => by simp [stopW] at hk, fun k hk => by simp [stopW] at hk, by show y.guards.length <= 1000; have := h.gl; omega, by simp [stopW], by simp [stopW]⟩
theorem goW_fit {ls : List LV} (h6 : ls.length <= 6) (hall : ls.all LV.ok = true) (hD : ∀ k, k < ls.length -> (ls[k]?.getD noLV).f.D.length = (ls[k]?.getD noLV).f.m) (f : Nat) : ∀ (i : Nat) (y : Way), i <= 12 + 7 * (7 - f) -> f <= 7 -> WayOk i y -> ∀ r ∈ goW ls f i y, RowFit r := by
 induction f with
 | zero => intro i y hi _ h r hr; simp only [goW, List.mem_cons, List.not_mem_nil, or_false] at hr; subst hr; exact endW_fit h
 | succ f ih =>
  intro i y hi hf7 h r hr;rw [goW] at hr
  by_cases hl : i < ls.length
  ·rw [if_pos hl] at hr
   have hok : (ls[i]?.getD noLV).ok = true := by
    rw [List.getElem?_eq_getElem hl]
    exact List.all_eq_true.1 hall _ (List.getElem_mem hl)
   have hDD := hD i hl;generalize ls[i]?.getD noLV = q at *
   by_cases hk4 : q.kind = 4
   ·rw [if_neg (by omega), if_neg (by omega), if_neg (by omega)] at hr;simp only [List.mem_cons, List.not_mem_nil, or_false] at hr;subst hr
    exact stopW_fit h
   obtain ⟨hsm, hkk, hz, hp⟩ := lineW (show lineB q.kind q.pot q.skip q.f.n q.f.m q.f.C q.f.D q.f.K = true from hok) hk4;obtain ⟨f1, f2, f3⟩ := h.into (by omega) (f := q.f) hsm hDD
   rcases hkk with e | e | e
   ·rw [if_pos e] at hr;have hz' := hz e
    rcases List.mem_append.1 hr with hr | hr
    ·exact ih _ _ (by omega) (by omega) (h.guard (by omega) f2) r hr
    exact ih _ _ (by omega) (by omega) (h.guard (by omega) f3) r hr
   ·rw [if_neg (by omega), if_pos e] at hr;have hp' := hp e
    exact ih _ _ (by omega) (by omega) (h.add (by omega) (by omega) f1) r hr
   rw [if_neg (by omega), if_neg (by omega), if_pos e] at hr
   exact ih _ _ (by omega) (by omega) (h.tell (by omega) f2) r hr
  rw [if_neg hl] at hr;simp only [List.mem_cons, List.not_mem_nil, or_false] at hr;subst hr
  exact endW_fit h
def readsR (rs : List RowM) (v : Nat) : Bool := rs.any fun r => r.adds.any (fun f => hasP f v) || r.tells.any (fun f => hasP f v)
theorem readsR_snoc (rs : List RowM) (k : Nat) (hk : k < rs.length) (v : Nat) : readsR (rs.take (k + 1)) v = readsF (readsF (readsR (rs.take k)) (rs[k]?.getD noR).adds) (rs[k]?.getD noR).tells v := by
 rw [readsR, List.take_succ_eq_append_getElem hk, List.any_append, List.getElem?_eq_getElem hk];simp [readsF, readsR, Bool.or_assoc]
theorem rowsL_fit {ls : List LV} (h6 : ls.length <= 6) (hall : ls.all LV.ok = true) (hF : LinesG w ad ls) : ∀ r ∈ rowsL ls, RowFit r :=
 goW_fit h6 hall (fun k hk => by obtain ⟨b, off, e, hc, hA⟩ := hF k hk; exact hA.D.1) 7 0 way0 (by omega) (by omega) WayOk.start
theorem OwnB.below {W' : World} {G : Nat} {f : Nat -> Bool} (h : OwnB W G f) (b : Below W.heap.size W W') : OwnB W' G f := by
 obtain ⟨cur, hc, hv⟩ := h
 exact ⟨cur, hc.below b, hv⟩
theorem put4 {X : Nat} {vs : List Value} {T : TypeId} (h : Cel W X vs T) (hl : vs.length = 4) (v0 v1 v2 v3 : Value) :
  Cel ((((W.setCell ⟨X, 0, none⟩ v0).setCell ⟨X, 1, none⟩ v1).setCell ⟨X, 2, none⟩ v2).setCell ⟨X, 3, none⟩ v3) X [v0, v1, v2, v3] T /\ Touch (fun z => z = X) W ((((W.setCell ⟨X, 0, none⟩ v0).setCell ⟨X, 1, none⟩ v1).setCell ⟨X, 2, none⟩ v2).setCell ⟨X, 3, none⟩ v3) := by
 refine ⟨?_, (((((Touch.refl (fun z => z = X) W).setCell rfl _).setCell rfl _).setCell rfl _).setCell rfl _)⟩;have := (((h.set 0 v0).set 1 v1).set 2 v2).set 3 v3
 match vs, hl with
 | [a, b, c, d], _ => exact this
theorem FOff.empty {S : Nat -> Prop} : FOff W S a [] := fun W' t i hi => by simp at hi
theorem JV.foff' {n : Nat} {xs : List Value} {fs : List Frm} (j : JV w (.slice a n cap) n xs fs W) (hn : fs.length = n) : FOff W (fun k => k < w.heap.size) a fs := by
 obtain ⟨a', cap', e, h⟩ := j.foff hn;simp only [Value.slice.injEq, true_and] at e;obtain ⟨rfl, rfl⟩ := e
 exact h
theorem irow_stop (y : Way) (ga : Option Addr) (ng gc : Nat) (pa : Option Addr) (cp : Nat) (ta : Option Addr) (nt tc : Nat) (w : World) (hg : y.guards.length = ng) (hG : FormsAt w ga y.guards) (fg : ∀ k, k < ng -> fitX 10000000 (y.guards[k]?.getD ([], [], 0))) (hg1 : ng <= 1048576) :
  Calls Tryz.prog 156 #[wayV ga ng gc pa cp ta nt tc true] w fun e w' => ∃ v, e = .returned v /\ Below w.heap.size w w' /\ RowX w' w.heap.size v (stopW y) := by
 have HGL : Hid (y.guards.length = ng) := hg;have HFG : Hid _ := fg;clear hg fg;have B0 : Below w.heap.size w ((w.alloc (.cells #[.slice ga ng gc, .slice pa 3 cp, .slice ta nt tc, .bool true] 200)).alloc (.cells #[.slice none 0 0, .slice none 0 0, .slice none 0 0, .bool false] 113)) := (bal).alloc (by simp) _;have r0 := Cel.new (w.alloc (.cells #[.slice ga ng gc, .slice pa 3 cp, .slice ta nt tc, .bool true] 200)) [.slice none 0 0, .slice none 0 0, .slice none 0 0, .bool false] 113;rw [qA] at r0
 go_enter Tryz.func156, Tryz.ntmps156
 go_wp2_with fail
 refine (icopies_any y.guards HGL.out (hG.keep B0) HFG.out hg1).mono ?_;rintro e w1 ⟨v1, xs1, rfl, j1⟩;obtain ⟨a1, c1, rfl⟩ := j1.isSlice;have B1 := B0.trans (j1.b.mono B0.size);have r1 := r0.below j1.b;have g1 := j1.foff' HGL.out;rw [qA, qA] at g1;have lr := r1.lt;obtain ⟨c0, c1', c2, c3⟩ := r1.four;have y0 := r1.free 0;have y1 := r1.free 1;have y2 := r1.free 2;have y3 := r1.free 3;obtain ⟨x', T'⟩ := put4 r1 rfl (.slice a1 ng c1) (.slice none 0 0) (.slice none 0 0) (.bool true);obtain ⟨h0, h1, h2, h3⟩ := x'.four;clear j1 r0 B0
 go_wp2
 refine bodyPost_ret (v := .agg #[.slice a1 ng c1, .slice none 0 0, .slice none 0 0, .bool true]) (by simp [results, Tryz.results156, go_sem, h0, h1, h2, h3]) rfl ?_;refine ⟨_, rfl, B1.trans (T'.below B1.size (fun k hk => by omega)), a1, c1, none, 0, none, 0, ?_, (g1.touch (T'.mono (fun k hk => by omega))).mono (fun k hk => by omega), FOff.empty, FOff.empty⟩
 show _ = Value.agg #[.slice a1 y.guards.length c1, .slice none 0 0, .slice none 0 0, .bool true]
 rw [HGL.out]
theorem irow_end (y : Way) (ga : Option Addr) (ng gc : Nat) (pa : Option Addr) (cp : Nat) (ta : Option Addr) (nt tc : Nat) (w : World) (hp : y.pots.length = 3) (hg : y.guards.length = ng) (ht : y.tells.length = nt) (hP : FormsAt w pa y.pots) (hG : FormsAt w ga y.guards) (hT : FormsAt w ta y.tells) (fp : ∀ k, k < 3 -> fitX 9000000 (y.pots[k]?.getD noX)) (fg : ∀ k, k < ng -> fitX 10000000 (y.guards[k]?.getD ([], [], 0))) (ft : ∀ k, k < nt -> fitX 10000000 (y.tells[k]?.getD ([], [], 0))) (hg1 : ng <= 1048576 := by omega) (ht1 : nt <= 1048576 := by omega) :
  Calls Tryz.prog 156 #[wayV ga ng gc pa cp ta nt tc false] w fun e w' => ∃ v, e = .returned v /\ Below w.heap.size w w' /\ RowX w' w.heap.size v (endW y) := by
 have HPL : Hid (y.pots.length = 3) := hp;have HGL : Hid (y.guards.length = ng) := hg;have HTL : Hid (y.tells.length = nt) := ht;have HFP : Hid _ := fp;have HFG : Hid _ := fg;have HFT : Hid _ := ft;clear hp hg ht fp fg ft;have B0 : Below w.heap.size w ((w.alloc (.cells #[.slice ga ng gc, .slice pa 3 cp, .slice ta nt tc, .bool false] 200)).alloc (.cells #[.slice none 0 0, .slice none 0 0, .slice none 0 0, .bool false] 113)) := (bal).alloc (by simp) _;have r0 := Cel.new (w.alloc (.cells #[.slice ga ng gc, .slice pa 3 cp, .slice ta nt tc, .bool false] 200)) [.slice none 0 0, .slice none 0 0, .slice none 0 0, .bool false] 113;have p0 := (Cel.new w [.slice ga ng gc, .slice pa 3 cp, .slice ta nt tc, .bool false] 200).alloc (.cells #[.slice none 0 0, .slice none 0 0, .slice none 0 0, .bool false] 113);rw [qA] at r0
 go_enter Tryz.func156, Tryz.ntmps156
 go_upto_region 3 with fail
 generalize ((w.alloc (.cells #[.slice ga ng gc, .slice pa 3 cp, .slice ta nt tc, .bool false] 200)).alloc (.cells #[.slice none 0 0, .slice none 0 0, .slice none 0 0, .bool false] 113)) = W0 at *;have KP : Hid (∀ W, Below W0.heap.size W0 W -> Cel W w.heap.size [.slice ga ng gc, .slice pa 3 cp, .slice ta nt tc, .bool false] 200) := fun W hW => p0.below hW;have KR : Hid (∀ W, Below W0.heap.size W0 W -> Cel W (w.heap.size + 1) [.slice none 0 0, .slice none 0 0, .slice none 0 0, .bool false] 113) := fun W hW => r0.below hW;have e0 : Below W0.heap.size W0 W0.drew := (Below.refl _ _).drew;have hSS : (W0.drew.cell? ⟨w.heap.size, 0, none⟩ = some (.slice ga ng gc) /\ W0.drew.cell? ⟨w.heap.size, 1, none⟩ = some (.slice pa 3 cp) /\ W0.drew.cell? ⟨w.heap.size, 2, none⟩ = some (.slice ta nt tc) /\ W0.drew.cell? ⟨w.heap.size, 3, none⟩ = some (.bool false)) /\ True := ⟨(KP.out _ e0).four, trivial⟩
 have lr := r0.lt;clear p0 r0;refine wp_region_ends (fun w' => w'.cell? ⟨w.heap.size, 0, none⟩ = some (.slice ga ng gc) /\ w'.cell? ⟨w.heap.size, 1, none⟩ = some (.slice pa 3 cp) /\ w'.cell? ⟨w.heap.size, 2, none⟩ = some (.slice ta nt tc) /\ w'.cell? ⟨w.heap.size, 3, none⟩ = some (.bool false)) (fun _ => True) 9 (by kernel_rfl) ?_;refine tkl 0 rfl hSS ?_;refine tkl 1 rfl hSS ?_;refine tkl 3 rfl hSS ?_;refine tkl 5 rfl hSS ?_;refine tkl 6 rfl hSS ?_;clear hSS;refine wo1 2 rfl fun K hK => ?_;go_simp;refine (icopies_any y.guards HGL.out ((hG.keep B0).keep e0) HFG.out hg1).mono ?_;rintro ee w1 ⟨v1, xs1, rfl, j1⟩;have e1 := below_of_drew j1.b;obtain ⟨a1, c1, rfl⟩ := j1.isSlice;have g1 : FOff w1 (fun k => k < W0.heap.size) a1 y.guards := j1.foff' HGL.out;clear j1;(try dsimp only);refine kk0 hK ((KP.out _ e1).four) ?_;refine wo1 4 rfl fun K hK => ?_;go_simp;refine (iadds_any y HPL.out ((hP.keep B0).keep e1) HFP.out).mono ?_;rintro ee w2 ⟨v2, xs2, rfl, j2⟩;have e2 := e1.trans (j2.b.mono e1.size);obtain ⟨a2, c2, rfl⟩ := j2.isSlice;have g2 := g1.below j2.b;have s1 := e1.size;have d2 : FOff w2 (fun k => k < w1.heap.size) a2 (endW y).adds := j2.foff' rfl;clear j2 g1;(try dsimp only);refine kk0 hK ((KP.out _ e2).four) ?_;refine wo1 7 rfl fun K hK => ?_;go_simp;refine (icopies_any y.tells HTL.out ((hT.keep B0).keep e2) HFT.out ht1).mono ?_;rintro ee w3 ⟨v3, xs3, rfl, j3⟩;have e3 := e2.trans (j3.b.mono e2.size);obtain ⟨a3, c3, rfl⟩ := j3.isSlice;have g3 := g2.below j3.b
 have d3 := d2.below j3.b;have s2 := e2.size;have s3 := e3.size;have t3 : FOff w3 (fun k => k < w2.heap.size) a3 y.tells := j3.foff' HTL.out;clear j3 g2 d2;(try dsimp only);refine kk0 hK ((KP.out _ e3).four) ?_;refine wo1 8 rfl fun K hK => ?_;go_simp;refine kk0 hK ((KP.out _ e3).four) ?_;have r1 := KR.out _ e3;have lr3 := r1.lt;obtain ⟨q0, q1, q2, q3⟩ := r1.four;have y0 := r1.free 0;have y1 := r1.free 1;have y2 := r1.free 2;have y3 := r1.free 3;obtain ⟨x', T'⟩ := put4 r1 rfl (.slice a1 ng c1) (.slice a2 3 c2) (.slice a3 nt c3) (.bool false);have p4 := (KP.out _ e3).touch T' (fun h => by have := h; omega);obtain ⟨h0, h1, h2, h3⟩ := x'.four;refine wo1 9 rfl fun K hK => ?_;go_simp;refine hK.out _ _ ⟨p4.four, fun h => absurd (show true = false from h) (by decide)⟩ ?_;refine wod ?_ _;have B3 := B0.trans (e3.mono B0.size);have sB := B0.size;have gg := (g3.touch (T'.mono (fun k hk => by omega))).mono (S' := fun k => k < w.heap.size) (fun k hk => by omega);have dd := (d3.touch (T'.mono (fun k hk => by omega))).mono (S' := fun k => k < w.heap.size) (fun k hk => by omega);have tt := (t3.touch (T'.mono (fun k hk => by omega))).mono (S' := fun k => k < w.heap.size) (fun k hk => by omega);have BB := B3.trans (T'.below B3.size (fun k hk => by omega));clear q0 q1 q2 q3 y0 y1 y2 y3 r1 p4 x' T' g3 d3 t3 KP KR
 go_wp2
 refine bodyPost_ret (v := .agg #[.slice a1 ng c1, .slice a2 3 c2, .slice a3 nt c3, .bool false]) (by simp [results, Tryz.results156, go_sem, h0, h1, h2, h3]) rfl ?_;refine ⟨_, rfl, BB, a1, c1, a2, c2, a3, c3, ?_, gg, dd, tt⟩
 show _ = Value.agg #[.slice a1 y.guards.length c1, .slice a2 3 c2, .slice a3 y.tells.length c3, .bool false]
 rw [HGL.out, HTL.out]
end Go.Proofs.YtfmpcihghlnlnaaGreatDoor
