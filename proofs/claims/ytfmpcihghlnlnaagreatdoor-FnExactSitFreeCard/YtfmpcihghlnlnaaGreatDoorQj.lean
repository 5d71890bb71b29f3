/-
  Lemmas that the claim's last text rests on.
-/
import Derived.Test.YtfmpcihghlnlnaaGreatDoorQi
namespace Go.Proofs.YtfmpcihghlnlnaaGreatDoor
open Go.RowKit Go.Deep Go.ChangeShapes Go.WideShapes Go.ChangeAt Go.Joins
open World renaming size_alloc → qA
set_option linter.unusedVariables false
set_option maxRecDepth 100000
set_option maxHeartbeats 25600000
variable {a : Option Addr} {ac cl sq : Int} {cap n : Nat} {w : World}
theorem ssitok_any {ad : Option Addr} {N : Nat} {ga : Option Addr} {gn gc : Nat} {sa : Option Addr} {sn sc : Nat} (ss : List L2V) (G S : List Int) {u f : Bool} {r : Int} {ba : Option Addr} {bn bc : Nat} (bx : List Int) {aa : Option Addr} {an ac : Nat} (ax : List Int) {da : Option Addr} {dn dc : Nat} (dx : List DV) {s : Int} {w : World} (hp : PlAt w ad N ss ga gn G sa sn S) (h : StAt w ba bn bx aa an ax da dn dx) :
  Calls Tryz.prog 18 #[plV cl ad N cap ga gn gc sa sn sc, siV u f r ba bn bc aa an ac da dn dc, .int .i64 s] w fun e w' => e = .returned (.bool (sitB cl N ss gn G sn S r bn bx an ax dn dx s)) /\ Below w.heap.size w w' := by
 have q0 := (Cel.new w [.int .i64 cl, .slice ad N cap, .slice ga gn gc, .slice sa sn sc] 37).alloc (.cells #[.bool u, .bool f, .int .i64 r, .slice ba bn bc, .slice aa an ac, .slice da dn dc] 41);have y0 := Cel.new (w.alloc (.cells #[.int .i64 cl, .slice ad N cap, .slice ga gn gc, .slice sa sn sc] 37)) [.bool u, .bool f, .int .i64 r, .slice ba bn bc, .slice aa an ac, .slice da dn dc] 41;rw [qA] at y0;have B0 := ((Below.refl w.heap.size w).alloc (Nat.le_refl _) (.cells #[.int .i64 cl, .slice ad N cap, .slice ga gn gc, .slice sa sn sc] 37)).alloc (by simp) (.cells #[.bool u, .bool f, .int .i64 r, .slice ba bn bc, .slice aa an ac, .slice da dn dc] 41)
 cases hpl : plnB cl N ss gn G sn S
 ·go_enter Tryz.func18, Tryz.ntmps18
  go_wp2_with fail
  refine (splnok_any ss G S (hp.below B0)).mono ?_;rintro e w1 ⟨rfl, b1⟩;rw [hpl]
  go_wp2
  go_ret
  exact ⟨ret_bool (by rw [sitB, hpl]; rfl), btr B0 b1⟩
 have pp := (pln_parts hpl).2;have HC : Hid _ := catB_parts (pln_cat hpl);have HP : Hid _ := hpl;clear hpl
 cases h1 : inB s 0 ((gn : Int) - 1)
 ·go_enter Tryz.func18, Tryz.ntmps18
  go_wp2_with fail
  refine (splnok_any ss G S (hp.below B0)).mono ?_;rintro e w1 ⟨rfl, b1⟩;rw [HP.out];have B1 := btr B0 b1;have q1 := q0.below b1;obtain ⟨c0, c1, c2, c3⟩ := q1.quadP
  go_wp2_with fail
  refine (in_any).mono ?_;rintro e w2 ⟨rfl, rfl⟩;rw [h1]
  go_wp2
  go_ret
  refine ⟨ret_bool ?_, B1⟩;rw [sitB, siteB]
  cases h3 : keepT bn gn bx G (catP ss) s an ax
  ·simp
  have := (keepT_elim h3).2.1; rw [h1] at this; cases this
 go_enter Tryz.func18, Tryz.ntmps18
 go_wp2_with fail
 refine (splnok_any ss G S (hp.below B0)).mono ?_;rintro e w1 ⟨rfl, b1⟩;rw [HP.out];have B1 := btr B0 b1;have q1 := q0.below b1;have y1 := y0.below b1;clear q0 y0 B0 b1;obtain ⟨c0, c1, c2, c3⟩ := q1.quadP
 go_wp2_with fail
 refine (in_any).mono ?_;rintro e w2 ⟨rfl, rfl⟩;rw [h1]
 go_wp2_with fail
 refine (sboth_any ss hp.ha (hp.below B1).a HC.out.2 HC.out.1).mono ?_;rintro e w2 ⟨G', cG, ts, nt, Gp, cp, rfl, hl, jp, hx, hnt, o, lGp⟩;have B2 := btr B1 jp.b;have q2 := q1.below jp.b;have y2 := y1.below jp.b;have hg := jp.g;have HX : Hid _ := hx;have HL : Hid _ := hl;have hR := o.bools.ba;clear jp hx hl o q1 y1 B1 c0 c1 c2 c3;obtain ⟨c0, c1, c2, c3⟩ := q2.quadP;obtain ⟨d0, d1, d2, d3, d4, d5⟩ := y2.sixP
 go_wp2_with fail
 refine (sl8_any G ts (catP ss) (pinsA ss) bx ax dx (hp.below B2).g hp.zg hg HL.out (by omega) HX.out hR (h.below B2)).mono ?_;rintro e w3 ⟨rfl, b3⟩
 go_wp2
 go_ret
 exact ⟨ret_bool (by rw [sitB, HP.out]; rfl), btr B2 b3⟩
theorem iround_any {r : Int} : Calls Tryz.prog 46 #[.int .i64 r] w fun e w' => e = .returned (.bool (inB r 0 200)) /\ Below w.heap.size w w' := by
 go_enter Tryz.func46, Tryz.ntmps46
 go_wp2_with fail
 refine (between_any [r] _ _ (one_ints w r 3) (by omega)).mono ?_;rintro e w1 ⟨rfl, rfl⟩
 go_wp2
 go_ret
 exact ⟨ret_bool (bet_one _ _ _), bal⟩
theorem isitok_any {ad : Option Addr} {N : Nat} {ga : Option Addr} {gn gc : Nat} {sa : Option Addr} {sn sc : Nat} (ss : List L2V) (G S : List Int) {u f : Bool} {r : Int} {ba : Option Addr} {bn bc : Nat} (bx : List Int) {aa : Option Addr} {an ac : Nat} (ax : List Int) {da : Option Addr} {dn dc : Nat} (dx : List DV) {s : Int} {w : World} (hp : PlAt w ad N ss ga gn G sa sn S) (h : StAt w ba bn bx aa an ax da dn dx) (hT : Lib.TabBelow Tryz.prog w.heap.size w "internal/strconv.uint64pow10" .u64 Lib.pow10Tab) :
  Calls Tryz.prog 25 #[plV cl ad N cap ga gn gc sa sn sc, siV u f r ba bn bc aa an ac da dn dc, .int .i64 s] w fun e w' => e = .returned (.bool (sitB cl N ss gn G sn S r bn bx an ax dn dx s)) /\ Below w.heap.size w w' := by
 have HTB : Hid _ := hT;clear hT;have q0 := (Cel.new w [.int .i64 cl, .slice ad N cap, .slice ga gn gc, .slice sa sn sc] 37).alloc (.cells #[.bool u, .bool f, .int .i64 r, .slice ba bn bc, .slice aa an ac, .slice da dn dc] 41);have y0 := Cel.new (w.alloc (.cells #[.int .i64 cl, .slice ad N cap, .slice ga gn gc, .slice sa sn sc] 37)) [.bool u, .bool f, .int .i64 r, .slice ba bn bc, .slice aa an ac, .slice da dn dc] 41;rw [qA] at y0;have B0 := ((Below.refl w.heap.size w).alloc (Nat.le_refl _) (.cells #[.int .i64 cl, .slice ad N cap, .slice ga gn gc, .slice sa sn sc] 37)).alloc (by simp) (.cells #[.bool u, .bool f, .int .i64 r, .slice ba bn bc, .slice aa an ac, .slice da dn dc] 41)
 cases hpl : plnB cl N ss gn G sn S
 ·go_enter Tryz.func25, Tryz.ntmps25
  go_wp2_with fail
  refine (iplnok_any ss G S (hp.below B0)).mono ?_;rintro e w1 ⟨rfl, b1⟩;rw [hpl]
  go_wp2
  go_ret
  exact ⟨ret_bool (by rw [sitB, hpl]; rfl), btr B0 b1⟩
 have HC : Hid _ := pln_cat hpl;have HP : Hid _ := hpl;clear hpl;obtain ⟨x1, hx1⟩ : ∃ y, y = inB r 0 200 := ⟨_, rfl⟩
 obtain ⟨x2, hx2⟩ : ∃ y, y = (keepT bn gn bx G (catP ss) s an ax && stillB (pinsA ss) ax) := ⟨_, rfl⟩
 obtain ⟨x3, hx3⟩ : ∃ y, y = donesB cl dn dx := ⟨_, rfl⟩
 have HB : Hid (sitB cl N ss gn G sn S r bn bx an ax dn dx s = (x1 && (x2 && x3))) := by show _ = _; rw [sitB, siteB, HP.out, hx1, hx2, hx3]; cases keepT bn gn bx G (catP ss) s an ax <;> simp
 have H1 : Hid _ := hx1;have H2 : Hid _ := hx2;have H3 : Hid _ := hx3;clear hx1 hx2 hx3
 go_enter Tryz.func25, Tryz.ntmps25
 go_wp2_with fail
 refine (iplnok_any ss G S (hp.below B0)).mono ?_;rintro e w1 ⟨rfl, b1⟩;rw [HP.out];have B1 := btr B0 b1;have q1 := q0.below b1;have y1 := y0.below b1;clear q0 y0 B0 b1;obtain ⟨d0, d1, d2, d3, d4, d5⟩ := y1.sixP
 go_wp2_with fail
 refine (iround_any).mono ?_;rintro e w2 ⟨rfl, b2⟩;rw [<- H1.out];have B2 := btr B1 b2;have q2 := q1.below b2;have y2 := y1.below b2;clear q1 y1 B1 b2 d0 d1 d2 d3 d4 d5
 cases x1
 ·go_wp2
  go_ret
  exact ⟨ret_bool (by rw [HB.out]; rfl), B2⟩
 obtain ⟨c0, c1, c2, c3⟩ := q2.quadP;obtain ⟨d0, d1, d2, d3, d4, d5⟩ := y2.sixP
 go_wp2_with fail
 refine (ikeeps_any ss G S bx ax (hp.below B2) HC.out (h.below B2).b h.zb (h.below B2).a h.za).mono ?_;rintro e w3 ⟨rfl, b3⟩;rw [<- H2.out];have B3 := btr B2 b3;have q3 := q2.below b3;have y3 := y2.below b3;clear q2 y2 B2 b3 c0 c1 c2 c3 d0 d1 d2 d3 d4 d5
 cases x2
 ·go_wp2
  go_ret
  exact ⟨ret_bool (by rw [HB.out]; rfl), B3⟩
 obtain ⟨c0, c1, c2, c3⟩ := q3.quadP;obtain ⟨d0, d1, d2, d3, d4, d5⟩ := y3.sixP
 go_wp2_with fail
 refine (idones_any dx h.ld (h.below B3).d h.zd (fun w' h' => HTB.out w' (btr B3 h'))).mono ?_;rintro e w4 ⟨rfl, b4⟩;rw [<- H3.out]
 go_wp2
 go_ret
 exact ⟨ret_bool (by rw [HB.out]; rfl), btr B3 b4⟩
abbrev clV (cl sq ac : Int) (a : Option Addr) (n cap : Nat) : Value := .agg #[.int .i64 cl, .int .i64 sq, .int .i64 ac, .slice a n cap]
theorem Cel.quadC {B : Nat} {x y z u : Value} {t : TypeId} (h : Cel w B [x, y, z, u] t) : w.cell? ⟨B, 0, none⟩ = some x /\ w.cell? ⟨B, 1, none⟩ = some y /\ w.cell? ⟨B, 2, none⟩ = some z /\ w.cell? ⟨B, 3, none⟩ = some u := ⟨h.cell 0, h.cell 1, h.cell 2, h.cell 3⟩
theorem szC_any {l : Int} (hn : n <= maxLen) (h0 : 0 <= l) (hl : l <= 1048576) :
  Calls Tryz.prog 6 #[clV cl sq ac a n cap, .int .i64 l] w fun e w' => e = .returned (.int .i64 (leftOf l n)) /\ Below w.heap.size w w' := by
 have g1 := leftOf_ge l n
 by_cases h : leftOf l n < 0
 ·go_enter Tryz.func6, Tryz.ntmps6
  go_wp2_with fail
  refine (sz_any _ _ _ _ _ hn h0 hl).mono ?_;rintro e w1 ⟨rfl, rfl⟩
  go_wp2
  go_ret
  exact ⟨ret_int (by omega), bal⟩
 go_enter Tryz.func6, Tryz.ntmps6
 go_wp2_with fail
 refine (sz_any _ _ _ _ _ hn h0 hl).mono ?_;rintro e w1 ⟨rfl, rfl⟩
 go_wp2
 go_ret
 exact ⟨ret_int rfl, bal⟩
theorem toC_any (C : List Int) {w : World} (hC : Ints w a n C) (hn : n <= 1048576) :
  Calls Tryz.prog 10 #[clV cl sq ac a n cap] w fun e w' => ∃ B1, e = .returned (clV cl sq ac (some ⟨B1, 0, none⟩) n n) /\ Below w.heap.size w w' /\ w.heap.size <= B1 /\ Blk w' B1 C := by
 go_enter Tryz.func10, Tryz.ntmps10
 go_wp2_with fail
 refine (to_any _ (((hC.alloc _).alloc _).alloc _) hn).mono ?_;rintro e w1 ⟨rfl, b1, k1⟩;have p1 := ((Cel.new (w.alloc _) _ _).alloc _).below b1;have p2 := (Cel.new ((w.alloc _).alloc _) _ _).below b1;rw [qA] at p1;rw [qA, qA] at p2;rw [qA, qA, qA] at k1;have s1 := k1.lt;have B1 : Below w.heap.size w w1 := (((bal).alloc (by simp) _).alloc (by simp; omega) _).trans (b1.mono (by simp; omega));clear b1;have g0 := p2.cell 0;have g1 := p2.cell 1;have g2 := p2.cell 2;have g3 := p2.cell 3;have f3 := p2.free 3;have e0 := p1.cell 0;have e1 := p1.cell 1;have e2 := p1.cell 2;have e3 := p1.cell 3;have h0 := p1.free 0;have h1 := p1.free 1;have h2 := p1.free 2;have h3 := p1.free 3;simp only [List.getElem?_cons_zero, List.getElem?_cons_succ] at g0 g1 g2 g3 e0 e1 e2 e3;have hlt1 : w.heap.size + 1 < w1.heap.size := by omega
 have hlt2 : w.heap.size + 1 + 1 < w1.heap.size := by omega
 go_wp2
 refine bodyPost_ret (v := clV cl sq ac (some ⟨w.heap.size + 1 + 1 + 1, 0, none⟩) n n) (by simp [results, Tryz.results10, go_sem, e0, e1, e2, e3]) rfl ⟨_, rfl, ?_, by omega, ?_⟩
 ·exact ((((B1.setCell (by simp only []; omega) _).setCell (by simp only []; omega) _).setCell (by simp only []; omega) _).setCell (by simp only []; omega) _).setCell (by simp only []; omega) _
 exact ((((k1.so).so).so).so).so
theorem eqC_same {a' : Option Addr} {cap' : Nat} (tl : List Int) {w : World} (h : Ints w a n tl) (h' : Ints w a' n tl) (hn : n <= 1048576) :
  Calls Tryz.prog 14 #[clV cl sq ac a n cap, clV cl sq ac a' n cap'] w fun e w' => e = .returned (.bool true) /\ Below w.heap.size w w' := by
 have h1 : (cl != cl) = false := by simp
 have h2 : (sq != sq) = false := by simp
 have h3 : (ac != ac) = false := by simp
 have HE := eqB_refl tl
 go_enter Tryz.func14, Tryz.ntmps14
 go_wp2_with fail
 refine (eq_any tl tl ((h.alloc _).alloc _) ((h'.alloc _).alloc _) hn hn).mono ?_;rintro e w1 ⟨rfl, b1⟩;rw [HE]
 go_wp2
 go_ret
 exact ⟨rfl, ((bal).alloc (by simp) _).trans (b1.mono (by simp; omega))⟩
theorem open_call {H : Type} {enc : TypeId × Value -> H} {W : World} {r : Reach} {b0 : Nat} {v : Value} {d : DataW H} {p : List MemPlace}
  (hv : Value.okWide Tryz.prog W r b0 30 v) (h : DataW.Trod enc Tryz.prog W 0 (fun _ => true) true 30 v d p) :
  ∃ cl sq ac a n cap C, v = clV cl sq ac a n cap /\ (Lit.int .i64 cl).wf = true /\ (Lit.int .i64 sq).wf = true /\ (Lit.int .i64 ac).wf = true /\ Ints W a n C /\ n <= maxLen := by
 obtain ⟨v0, v1, v2, v3, y0, y1, y2, y3, k, rfl, -, -, h0, h1, h2, h3⟩ := open_agg4 Tryz.underlying30 (by kernel_rfl) (by kernel_rfl) hv h;obtain ⟨cl, rfl, w1⟩ := open_num h0;obtain ⟨sq, rfl, w2⟩ := open_num h1;obtain ⟨ac, rfl, w3⟩ := open_num h2;obtain ⟨a, n, cap, C, rfl, hC, hn⟩ := open_row h3
 exact ⟨cl, sq, ac, a, n, cap, C, rfl, w1, w2, w3, hC, hn⟩
def callOkB (cl sq ac : Int) (n : Nat) (zs : List Int) : Bool := inB cl 0 3 && (inB sq 1 300 && (inB ac 0 3 && okN 2 9 n zs))
def wClient : List UInt8 := [99, 108, 105, 101, 110, 116]
def wCall : List UInt8 := [99, 97, 108, 108]
def wAct : List UInt8 := [97, 99, 116]
def wWith : List UInt8 := [119, 105, 116, 104]
def callL (cl sq ac : Int) (zs : List Int) : List UInt8 := wClient ++ ([32] ++ (Lib.itoa cl ++ ([32] ++ (wCall ++ ([32] ++ (Lib.itoa sq ++ ([32] ++ (wAct ++ ([32] ++ (Lib.itoa ac ++ ([32] ++ (wWith ++ tailL zs))))))))))))
def callText (cl sq ac : Int) (n : Nat) (zs : List Int) : List UInt8 := if callOkB cl sq ac n zs = true then callL cl sq ac zs else []
theorem callText_no {zs : List Int} (h : callOkB cl sq ac n zs = false) : callText cl sq ac n zs = [] := by rw [callText, h]; rfl
theorem callText_yes {zs : List Int} (h : callOkB cl sq ac n zs = true) : callText cl sq ac n zs = callL cl sq ac zs := by rw [callText, if_pos h]
end Go.Proofs.YtfmpcihghlnlnaaGreatDoor
