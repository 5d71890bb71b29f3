/-
  Lemmas that the claim's last text rests on.
-/
import Derived.Test.YtfmpcihghlnlnaaGreatDoorQk
namespace Go.Proofs.YtfmpcihghlnlnaaGreatDoor
open Go.RowKit Go.Deep
open World renaming size_alloc → qA
open List renaming getElem?_cons_zero → qB, getElem?_cons_succ → qC
open Nat renaming le_refl → qD
set_option linter.unusedVariables false
set_option maxRecDepth 100000
set_option maxHeartbeats 25600000
variable {N cap : Nat} {a ad : Option Addr} {cl : Int}
def fullC (l : List UInt8) : Bool := !(⟨l.toArray⟩ : ByteArray).toList.isEmpty
theorem full_call (x sq ac : Int) (n : Nat) (zs : List Int) : fullC (callText x sq ac n zs) = callOkB x sq ac n zs := by
 cases h : callOkB x sq ac n zs
 ·rw [callText_no h, fullC, ByteArray.toList_mk]; rfl
 rw [callText_yes h, fullC, ByteArray.toList_mk, callL]; rfl
def inCallB (cl : Int) (N : Nat) (x sq ac : Int) (n : Nat) (zs : List Int) : Bool := inB x 0 (cl - 1) && (inB sq 1 300 && (inB ac 0 (N - 1) && okN 2 9 n zs))
theorem pln_acts {ss : List L2V} {gn : Nat} {G : List Int} {sn : Nat} {S : List Int} (h : plnB cl N ss gn G sn S = true) : 1 <= N /\ N <= 4 := by
 simp only [plnB, catB, Bool.and_eq_true] at h;have h1 := inB_iff.1 h.2.1.1
 omega
theorem inCall_same {x sq ac : Int} {n : Nat} {zs : List Int} (h1 : cl <= 4) (h2 : N <= 4) : (decide (0 <= x /\ x < cl) && (decide (0 <= ac /\ ac < (N : Int)) && fullC (callText x sq ac n zs))) = inCallB cl N x sq ac n zs := by
 rw [full_call, callOkB, inCallB]
 have e1 : decide (0 <= x /\ x < cl) = inB x 0 (cl - 1) := by
  cases h : inB x 0 (cl - 1)
  ·have := inB_not.1 h; simp; omega
  have := inB_iff.1 h; simp; omega
 have e2 : decide (0 <= ac /\ ac < (N : Int)) = inB ac 0 (N - 1) := by
  cases h : inB ac 0 (N - 1)
  ·have := inB_not.1 h; simp; omega
  have := inB_iff.1 h; simp; omega
 rw [e1, e2]
 cases h : inB x 0 (cl - 1)
 ·simp
 have g1 := inB_iff.1 h;rw [inB_iff.2 (show 0 <= x /\ x <= 3 by omega)]
 cases h' : inB ac 0 (N - 1)
 ·simp
 have g2 := inB_iff.1 h';rw [inB_iff.2 (show 0 <= ac /\ ac <= 3 by omega)];simp
theorem l6call_any {ga : Option Addr} {gn gc : Nat} {sa : Option Addr} {sn sc : Nat} {x sq ac : Int} {n cc : Nat} (zs : List Int) {w : World} (hC : Ints w a n zs) (hn : n <= 1048576) (h1 : 1 <= cl /\ cl <= 4) (h2 : 1 <= N /\ N <= 4) :
  Calls Tryz.prog 37 #[plV cl ad N cap ga gn gc sa sn sc, clV x sq ac a n cc] w fun e w' => e = .returned (.bool (inCallB cl N x sq ac n zs)) /\ Below w.heap.size w w' := by
 have B_0 := ((Below.refl w.heap.size w).alloc (qD _) (.cells #[.int .i64 cl, .slice ad N cap, .slice ga gn gc, .slice sa sn sc] 37)).alloc (by simp) (.cells #[.int .i64 x, .int .i64 sq, .int .i64 ac, .slice a n cc] 43);obtain ⟨x1, hx1⟩ : ∃ y, y = inB x 0 (cl - 1) := ⟨_, rfl⟩
 obtain ⟨x2, hx2⟩ : ∃ y, y = inB sq 1 300 := ⟨_, rfl⟩
 obtain ⟨x3, hx3⟩ : ∃ y, y = inB ac 0 ((N : Int) - 1) := ⟨_, rfl⟩
 obtain ⟨x4, hx4⟩ : ∃ y, y = okN 2 9 n zs := ⟨_, rfl⟩
 have HB : Hid (inCallB cl N x sq ac n zs = (x1 && (x2 && (x3 && x4)))) := by show _ = _; rw [inCallB, hx1, hx2, hx3, hx4]
 have H1 : Hid _ := hx1;have H2 : Hid _ := hx2;have H3 : Hid _ := hx3;have H4 : Hid _ := hx4;clear hx1 hx2 hx3 hx4;obtain ⟨c1, c2⟩ := h1;obtain ⟨d1, d2⟩ := h2
 go_enter Tryz.func37, Tryz.ntmps37
 go_wp2_with fail
 refine (in_any).mono ?_;rintro e w1 ⟨rfl, rfl⟩;rw [<- H1.out]
 cases x1
 ·go_wp2
  go_ret
  exact ⟨ret_bool (by rw [HB.out]; rfl), B_0⟩
 go_wp2_with fail
 refine (in_any).mono ?_;rintro e w1 ⟨rfl, rfl⟩;rw [<- H2.out]
 cases x2
 ·go_wp2
  go_ret
  exact ⟨ret_bool (by rw [HB.out]; rfl), B_0⟩
 go_wp2_with fail
 refine (in_any).mono ?_;rintro e w1 ⟨rfl, rfl⟩;rw [<- H3.out]
 cases x3
 ·go_wp2
  go_ret
  exact ⟨ret_bool (by rw [HB.out]; rfl), B_0⟩
 go_wp2_with fail
 refine (sarg_any zs (hC.below B_0) hn).mono ?_;rintro e w1 ⟨rfl, rfl⟩;rw [<- H4.out]
 go_wp2
 go_ret
 exact ⟨ret_bool (by rw [HB.out]; rfl), B_0⟩
theorem scallok_any (ss : List L2V) {ga : Option Addr} {gn gc : Nat} (G : List Int) {sa : Option Addr} {sn sc : Nat} (S : List Int) {x sq ac : Int} {a : Option Addr} {n cc : Nat} (zs : List Int) {w : World} (h : PlAt w ad N ss ga gn G sa sn S) (hC : Ints w a n zs) (hn : n <= 1048576) :
  Calls Tryz.prog 19 #[plV cl ad N cap ga gn gc sa sn sc, clV x sq ac a n cc] w fun e w' => e = .returned (.bool (plnB cl N ss gn G sn S && inCallB cl N x sq ac n zs)) /\ Below w.heap.size w w' := by
 have q_0 := (BP.new w [.int .i64 cl, .slice ad N cap, .slice ga gn gc, .slice sa sn sc] 37).alloc (.cells #[.int .i64 x, .int .i64 sq, .int .i64 ac, .slice a n cc] 43);have y_0 := Cel.new (w.alloc (.cells #[.int .i64 cl, .slice ad N cap, .slice ga gn gc, .slice sa sn sc] 37)) [.int .i64 x, .int .i64 sq, .int .i64 ac, .slice a n cc] 43;rw [qA] at y_0
 cases hp : plnB cl N ss gn G sn S
 ·have HP : Hid _ := hp;clear hp
  go_enter Tryz.func19, Tryz.ntmps19
  go_wp2_with fail
  refine (splnok_any ss G S ((h.alloc _).alloc _)).mono ?_;rintro e w1 ⟨rfl, b1⟩;rw [HP.out];have q_1 := q_0.below b1
  go_wp2
  go_ret
  exact ⟨ret_bool (by simp), q_1.b⟩
 have pp := (pln_parts hp).1;have pa := pln_acts hp;have HP : Hid _ := hp;clear hp
 go_enter Tryz.func19, Tryz.ntmps19
 go_wp2_with fail
 refine (splnok_any ss G S ((h.alloc _).alloc _)).mono ?_;rintro e w1 ⟨rfl, b1⟩;rw [HP.out];have q_1 := q_0.below b1;have y_1 := y_0.below b1;clear q_0 y_0 b1;obtain ⟨c0, c1, c2, c3⟩ := q_1.p.quadP;obtain ⟨d0, d1, d2, d3⟩ := y_1.quadC
 go_wp2_with fail
 refine (l6call_any zs (hC.below q_1.b) hn pp pa).mono ?_;rintro e w2 ⟨rfl, b2⟩;have q_2 := q_1.below b2
 go_wp2
 go_ret
 exact ⟨ret_bool (by simp), q_2.b⟩
theorem icallok_any (ss : List L2V) {ga : Option Addr} {gn gc : Nat} (G : List Int) {sa : Option Addr} {sn sc : Nat} (S : List Int) {x sq ac : Int} {a : Option Addr} {n cc : Nat} (zs : List Int) {w : World} (h : PlAt w ad N ss ga gn G sa sn S) (hC : Ints w a n zs) (hn : n <= 1048576) (hT : Lib.TabBelow Tryz.prog w.heap.size w "internal/strconv.uint64pow10" .u64 Lib.pow10Tab) :
  Calls Tryz.prog 26 #[plV cl ad N cap ga gn gc sa sn sc, clV x sq ac a n cc] w fun e w' => e = .returned (.bool (plnB cl N ss gn G sn S && inCallB cl N x sq ac n zs)) /\ Below w.heap.size w w' := by
 have HTB : Hid _ := hT;clear hT;have q_0 := (BP.new w [.int .i64 cl, .slice ad N cap, .slice ga gn gc, .slice sa sn sc] 37).alloc (.cells #[.int .i64 x, .int .i64 sq, .int .i64 ac, .slice a n cc] 43);have y_0 := Cel.new (w.alloc (.cells #[.int .i64 cl, .slice ad N cap, .slice ga gn gc, .slice sa sn sc] 37)) [.int .i64 x, .int .i64 sq, .int .i64 ac, .slice a n cc] 43;rw [qA] at y_0
 cases hp : plnB cl N ss gn G sn S
 ·have HP : Hid _ := hp;clear hp
  go_enter Tryz.func26, Tryz.ntmps26
  go_wp2_with fail
  refine (iplnok_any ss G S ((h.alloc _).alloc _)).mono ?_;rintro e w1 ⟨rfl, b1⟩;rw [HP.out];have q_1 := q_0.below b1
  go_wp2
  go_ret
  exact ⟨ret_bool (by simp), q_1.b⟩
 have pp := (pln_parts hp).1;have pa := pln_acts hp;have HP : Hid _ := hp;clear hp;obtain ⟨x1, hx1⟩ : ∃ y, y = decide (0 <= x /\ x < cl) := ⟨_, rfl⟩
 obtain ⟨x2, hx2⟩ : ∃ y, y = decide (0 <= ac /\ ac < (N : Int)) := ⟨_, rfl⟩
 obtain ⟨T, hx3⟩ : ∃ y : ByteArray, y = ⟨(callText x sq ac n zs).toArray⟩ := ⟨_, rfl⟩
 have HB : Hid (inCallB cl N x sq ac n zs = (x1 && (x2 && !T.toList.isEmpty))) := by show _ = _; rw [<- inCall_same pp.2 pa.2, hx1, hx2, hx3]; rfl
 have H1 : Hid _ := hx1;have H2 : Hid _ := hx2;have H3 : Hid _ := hx3;clear hx1 hx2 hx3
 go_enter Tryz.func26, Tryz.ntmps26
 go_wp2_with fail
 refine (iplnok_any ss G S ((h.alloc _).alloc _)).mono ?_;rintro e w1 ⟨rfl, b1⟩;rw [HP.out];have q_1 := q_0.below b1;have y_1 := y_0.below b1;clear q_0 y_0 b1;obtain ⟨c0, c1, c2, c3⟩ := q_1.p.quadP;obtain ⟨d0, d1, d2, d3⟩ := y_1.quadC
 go_wp2_with fail
 refine (place_any).mono ?_;rintro e w2 ⟨rfl, rfl⟩;rw [<- H1.out]
 cases x1
 ·go_wp2
  go_ret
  exact ⟨ret_bool (by rw [HB.out]; rfl), q_1.b⟩
 go_wp2_with fail
 refine (place_any).mono ?_;rintro e w2 ⟨rfl, rfl⟩;rw [<- H2.out]
 cases x2
 ·go_wp2
  go_ret
  exact ⟨ret_bool (by rw [HB.out]; rfl), q_1.b⟩
 have B_1 := q_1.b
 go_wp2_with fail
 refine (ictext_any zs (hC.below q_1.b) hn (fun w' h' => HTB.out w' (btr B_1 h'))).mono ?_;rintro e w2 ⟨rfl, b2⟩;rw [<- H3.out];have q_2 := q_1.below b2;clear c0 c1 c2 c3 d0 d1 d2 d3 q_1 y_1 B_1 b2
 go_wp2
 go_ret
 exact ⟨ret_bool (by rw [HB.out]; rfl), q_2.b⟩
section
variable {P : Program} {n : Nat} {α : Type}
def roundLeft (B : Nat) (Kp : World -> World -> Prop) (I : List α -> World -> Prop) (Ix : Code -> List α -> World -> Prop) (xs : List α) (W : World) : Exit -> Act -> World -> Prop
 | .normal, _, W' => KeepsFrom B W W' /\ Kp W W' /\ I xs W'
 | .ret, _, W' => KeepsFrom B W W' /\ Kp W W' /\ Ix .ret xs W'
 | .exit id, _, W' => KeepsFrom B W W' /\ Kp W W' /\ Ix (.exit id) xs W'
 | .goto t, _, W' => KeepsFrom B W W' /\ Kp W W' /\ Ix (.goto t) xs W'
 | _, _, _ => False
theorem wpIn_rowsL {g : Operand} {ps : Array Tmp} {assign body : Code} {Q : Exit -> Act -> World -> Prop} {a : Act} {w : World} {gf : Nat} {lb : Array Value}
  (hg : a.eval g = .func (.func gf) #[] lb) (eg : ∀ args w, (callFunc gf args).run P w = .ok (.enter gf args) w)
  {encs : α -> Array Value} (hps : ∀ x, (encs x).size = ps.size) (A : List α -> α -> World -> Prop) (Kp : World -> World -> Prop) (Sx Sp : List α -> Prop) (I : List α -> World -> Prop) (Ix : Code -> List α -> World -> Prop)
  (hI : ∀ pre X Y, I pre X -> Below X.heap.size X Y -> I pre Y) (hIb : ∀ pre X l r r', I pre X -> X.heap[l]? = some (.loop r) -> w.heap.size < l -> I pre (X.putObj l (.loop r')))
  (hXb : ∀ c pre X l r r', Ix c pre X -> X.heap[l]? = some (.loop r) -> w.heap.size < l -> Ix c pre (X.putObj l (.loop r')))
  (hKb : ∀ X l r r', X.heap[l]? = some (.loop r) -> Kp X (X.putObj l (.loop r'))) (hKt : ∀ X Y Z, Kp X Y -> Kp Y Z -> Kp X Z) (h0 : I [] w)
  (hseq : ∀ (l : Nat) (J D : List α -> World -> Prop) (W : World), (∀ pre X Y, J pre X -> Below X.heap.size X Y -> J pre Y) -> Below w.heap.size w W -> J [] W ->
   (∀ m pre x X, J pre X -> A pre x X -> YieldAt Fence.wide m P l (encs x) X fun e Y => ∃ b : Bool, e = .returned (.bool b) /\ ((b = true /\ J (pre ++ [x]) Y) \/ (b = false /\ D (pre ++ [x]) Y)) /\ Kp X Y) ->
   CallsIn Fence.wide (n - 1) P gf (#[.func (.yield l) #[] #[]] ++ lb) W fun e Y => (∃ v, e = .returned v) /\ ((∃ xs, Sx xs /\ J xs Y) \/ ∃ xs, Sp xs /\ D xs Y))
  (hround : ∀ (m l : Nat) (pre : List α) (x : α) (X : World) (r : Loop), I pre X -> A pre x X -> X.heap[l]? = some (.loop r) -> w.heap.size < l ->
   assign.wpIn (Fence.wide.inRound l) m P (Exit.then (fun a' Y => KeepsFrom w.heap.size X Y /\ Kp X Y /\ body.wpIn (Fence.wide.inRound l) m P (roundLeft w.heap.size Kp I Ix (pre ++ [x]) (Y.putObj l (.loop { r with state := .busy }))) a' (Y.putObj l (.loop { r with state := .busy }))) (fun _ _ _ => False))
    { tmps := (ps.zip (encs x)).foldl (fun t (p, v) => t.setIfInBounds p v) a.tmps, defers := [] } X)
  (hdone : ∀ (D : Nat) (xs : List α) (W : World), w.heap.size <= D -> Sx xs -> I xs W -> W.heap[D]? = some (.deferred (some [])) -> Q .normal { a with defers := { target := .collected D, args := #[] } :: a.defers } W)
  (hstop : ∀ (D : Nat) (c : Code) (xs : List α) (W : World), w.heap.size <= D -> Sp xs -> Ix c xs W -> W.heap[D]? = some (.deferred (some [])) -> c.wpIn Fence.wide n P Q { a with defers := { target := .collected D, args := #[] } :: a.defers } W) :
  (Code.rangeFunc g ps assign body).wpIn Fence.wide n P Q a w := by
 refine wpIn_rangeFunc ?_;intro fn _;obtain ⟨r0, hr0⟩ : ∃ r0 : Loop, r0 = { state := .ready, pending := none, fn, tmps := a.tmps, params := ps, assign, body, defers := w.heap.size } := ⟨_, rfl⟩
 obtain ⟨W1, hW1⟩ : ∃ W1, W1 = (w.alloc (.deferred (some []))).alloc (.loop r0) := ⟨_, rfl⟩
 have b1 : Below w.heap.size w W1 := by rw [hW1]; exact ((Below.refl _ w).alloc (qD _) _).alloc (by simp) _
 have hL : W1.heap[w.heap.size + 1]? = some (.loop r0) := by
  rw [hW1]; have := World.alloc_heap_new (w.alloc (.deferred (some []))) (.loop r0); rwa [qA] at this
 have hD : W1.heap[w.heap.size]? = some (.deferred (some [])) := by
  rw [hW1]; exact (Below.heap_alloc _ _ _ (by simp)).trans (World.alloc_heap_new w _)
 refine ⟨w.heap.size + 1, [{ target := .collected w.heap.size, args := #[] }], W1, { target := .fn (.func gf) lb, args := #[.func (.yield (w.heap.size + 1)) #[] #[]] }, W1, gf, #[.func (.yield (w.heap.size + 1)) #[] #[]] ++ lb, W1, ?_, ?_, ?_, ?_, ?_, ?_⟩
 ·rw [hW1, hr0]; exact run_enterLoop_outer _ _ _ _ _
 ·simp only [resolve, hg];simp [go_sem]
 ·intro f' _; trivial
 ·simp [invoke, go_sem, eg]
 ·intro h; simp [Fence.wide] at h
 refine (hseq (w.heap.size + 1) (fun pre W => I pre W /\ W.heap[w.heap.size + 1]? = some (.loop r0) /\ W.heap[w.heap.size]? = some (.deferred (some [])))
  (fun pre W => ∃ c, Ix c pre W /\ W.heap[w.heap.size + 1]? = some (.loop { r0 with state := .done, pending := some c }) /\ W.heap[w.heap.size]? = some (.deferred (some []))) W1 ?_ b1 ⟨hI _ _ _ h0 b1, hL, hD⟩ ?_).mono ?_
 ·rintro pre X Y ⟨i1, i2, i3⟩ hb
  exact ⟨hI _ _ _ i1 hb, (hb.block _ (Array.getElem?_eq_some_iff.1 i2).1).trans i2, (hb.block _ (Array.getElem?_eq_some_iff.1 i3).1).trans i3⟩
 ·rintro m pre x X ⟨i1, i2, i3⟩ hA;have hy := run_yield (P := P) (args := encs x) i2 (by rw [hr0]; exact hps x);rw [hr0] at hy;refine ⟨fn, _, assign, body, hy, roundIn_of_wpIn trivial (wpIn_mono (hround m _ pre x X r0 i1 hA i2 (by omega)) ?_)⟩;rintro e a' Y hp
  cases e with
  | normal =>
   obtain ⟨k1, k2, hb⟩ := hp;have j2 := k1.same _ _ (by omega) i2 rfl;have j3 := k1.same _ _ (qD _) i3 rfl;refine ⟨_, run_beginRound j2 (by rw [hr0]), wpIn_mono hb ?_⟩;have hl : w.heap.size + 1 < Y.heap.size := (Array.getElem?_eq_some_iff.1 j2).1
   have left : ∀ (c : Code) (Z : World), KeepsFrom w.heap.size (Y.putObj (w.heap.size + 1) (.loop { r0 with state := .busy })) Z -> Kp (Y.putObj (w.heap.size + 1) (.loop { r0 with state := .busy })) Z -> Ix c (pre ++ [x]) Z ->
     ∃ v w', (Instr.endRound (w.heap.size + 1) (some c)).run P Z = .ok v w' /\ (∃ b : Bool, (Ending.returned v) = .returned (.bool b) /\ ((b = true /\ I (pre ++ [x]) w' /\ w'.heap[w.heap.size + 1]? = some (.loop r0) /\ w'.heap[w.heap.size]? = some (.deferred (some []))) \/ (b = false /\ ∃ c, Ix c (pre ++ [x]) w' /\ w'.heap[w.heap.size + 1]? = some (.loop { r0 with state := .done, pending := some c }) /\ w'.heap[w.heap.size]? = some (.deferred (some [])))) /\ Kp X w') := by
    intro c Z q1 q2 q3;have m2 := q1.same _ _ (by omega) (World.putObj_heap_same (o := .loop { r0 with state := .busy }) hl) rfl;have m3 := q1.same _ _ (qD _) ((World.putObj_heap_other (by omega)).trans j3) rfl;have hz : w.heap.size + 1 < Z.heap.size := (Array.getElem?_eq_some_iff.1 m2).1;refine ⟨_, _, run_endRound (some c) m2, false, rfl, Or.inr ⟨rfl, c, hXb _ _ _ _ _ _ q3 m2 (by omega), ?_, (World.putObj_heap_other (by omega)).trans m3⟩, hKt _ _ _ (hKt _ _ _ (hKt _ _ _ k2 (hKb _ _ _ _ j2)) q2) (hKb _ _ _ _ m2)⟩;rw [World.putObj_heap_same hz]
    rfl
   rintro e a'' Z hq
   cases e with
   | normal =>
    obtain ⟨q1, q2, q3⟩ := hq;have m2 := q1.same _ _ (by omega) (World.putObj_heap_same (o := .loop { r0 with state := .busy }) hl) rfl;have m3 := q1.same _ _ (qD _) ((World.putObj_heap_other (by omega)).trans j3) rfl;have hz : w.heap.size + 1 < Z.heap.size := (Array.getElem?_eq_some_iff.1 m2).1;refine ⟨_, _, run_endRound none m2, true, rfl, Or.inl ⟨rfl, hIb _ _ _ _ _ q3 m2 (by omega), ?_, (World.putObj_heap_other (by omega)).trans m3⟩, hKt _ _ _ (hKt _ _ _ (hKt _ _ _ k2 (hKb _ _ _ _ j2)) q2) (hKb _ _ _ _ m2)⟩;rw [World.putObj_heap_same hz, hr0]
    rfl
   | ret => exact left _ Z hq.1 hq.2.1 hq.2.2
   | exit id => exact left _ Z hq.1 hq.2.1 hq.2.2
   | goto t => exact left _ Z hq.1 hq.2.1 hq.2.2
   | panic c => exact hq.elim
   | outgrown => exact hq.elim
  | ret => exact hp.elim
  | exit id => exact hp.elim
  | goto t => exact hp.elim
  | panic c => exact hp.elim
  | outgrown => exact hp.elim
 rintro e W2 ⟨⟨v, rfl⟩, ⟨xs, hS, i1, i2, i3⟩ | ⟨xs, hS, c, i1, i2, i3⟩⟩
 ·exact ⟨none, _, by have := run_endLoop (P := P) i2 (by rw [hr0]; simp); rw [hr0] at this; rw [hr0] at i2; exact this, hdone _ xs _ (qD _) hS (hIb _ _ _ _ _ i1 i2 (by omega)) ((World.putObj_heap_other (by omega)).trans i3)⟩
 exact ⟨some c, _, run_endLoop (P := P) i2 (by simp), hstop _ c xs _ (qD _) hS (hXb _ _ _ _ _ _ i1 i2 (by omega)) ((World.putObj_heap_other (by omega)).trans i3)⟩
end
theorem zip_take {xs ys : List Int} {k : Nat} (hx : k < xs.length) (hy : k < ys.length) : (List.zipWith (· + ·) xs ys).take (k + 1) = (List.zipWith (· + ·) xs ys).take k ++ [xs[k]?.getD 0 + ys[k]?.getD 0] := by
 have hl : k < (List.zipWith (· + ·) xs ys).length := by rw [List.length_zipWith]; omega
 rw [List.take_succ_eq_append_getElem hl, List.getElem_zipWith, List.getElem?_eq_getElem hx, List.getElem?_eq_getElem hy]
 rfl
theorem sum5_any {c : Option Addr} {cap' : Nat} (xs ys : List Int) {w : World} (h : Ints w a 3 xs) (h' : Ints w c 3 ys) (hM : bnd 1000000000 xs) (hM' : bnd 1000000000 ys) :
  Calls Tryz.prog 100 #[.slice a 3 cap, .slice c 3 cap'] w fun e w' => ∃ v, e = .returned v /\ JA w v (List.zipWith (· + ·) xs ys) w' := by
 have HX : Hid (xs.length = 3) := h.1;have HY : Hid (ys.length = 3) := h'.1;obtain ⟨i0, hi, hz0, hz1, hz2⟩ := info_parts Tryz.infoInt
 go_enter Tryz.func100, Tryz.ntmps100
 go_wp2_with fail
 go_loopw [5, 6] (fun v i wr => ∃ k : Nat, k <= 3 /\ i = .int .i64 k /\ ∃ zs : List Int, zs.length = k /\ zs = (List.zipWith (· + ·) xs ys).take k /\ JA w v zs wr) (fun _ i _ => 3 - (intOf i).toNat)
 case atStart => exact ⟨0, by omega, rfl, [], rfl, rfl, JA.lit w⟩
 case round =>
  obtain ⟨k, hk, rfl, zs, hzl, hzs, j⟩ := hrel;have HL : Hid (zs.length = k) := hzl;have HZS : Hid (zs = (List.zipWith (· + ·) xs ys).take k) := hzs;clear hzl hzs
  by_cases hlt : k < 3
  ·obtain ⟨b, off, rfl, hcell⟩ := h.pos (by omega);obtain ⟨b', off', rfl, hcell'⟩ := h'.pos (by omega);have c0 : w.cell? ⟨b, off + k, none⟩ = some (.int .i64 (xs[k]?.getD 0)) := by rw [hcell k hlt]; simp
   have c1 : w.cell? ⟨b', off' + k, none⟩ = some (.int .i64 (ys[k]?.getD 0)) := by rw [hcell' k hlt]; simp
   have HP : Hid _ := zip_take (xs := xs) (ys := ys) (k := k) (by rw [HX.out]; exact hlt) (by rw [HY.out]; exact hlt);obtain ⟨m1, m2⟩ := hM k;obtain ⟨m3, m4⟩ := hM' k;generalize HG : xs[k]?.getD 0 = x at *;generalize HG' : ys[k]?.getD 0 = y at *;clear HG HG' hcell hcell' hM hM' h h'
   have KP : Hid (∀ W : World, Below w.heap.size w W -> W.cell? ⟨b, off + k, none⟩ = some (.int .i64 x) /\ W.cell? ⟨b', off' + k, none⟩ = some (.int .i64 y)) := fun W hW =>
    ⟨by rw [hW.cell (p := ⟨b, off + k, none⟩) (block_lt c0)]; exact c0, by rw [hW.cell (p := ⟨b', off' + k, none⟩) (block_lt c1)]; exact c1⟩
   have hSS := And.intro (KP.out _ j.b.drew) (True.intro);clear c0 c1;have hlt' : (k : Int) < 3 := by omega
   have hwr : IntKind.i64.wrap (x + y) = x + y := wrap_id (by omega) (by omega)
   go_upto_region 5 with fail
   refine wp_region_ends (fun w' => w'.cell? ⟨b, off + k, none⟩ = some (.int .i64 x) /\ w'.cell? ⟨b', off' + k, none⟩ = some (.int .i64 y)) (fun _ => True) 12 (by kernel_rfl) ?_;refine tkl 0 rfl hSS ?_;refine tkl 1 rfl hSS ?_;refine tkl 2 rfl hSS ?_;refine tkl 3 rfl hSS ?_;refine tkl 4 rfl hSS ?_;refine tkl 5 rfl hSS ?_;refine tkl 6 rfl hSS ?_;refine tkl 7 rfl hSS ?_;refine tkl 8 rfl hSS ?_;refine tkl 9 rfl hSS ?_;refine wo1 10 rfl fun K hK => ?_;go_simp;have j1 := j.below (W' := wr.drew) ((Below.refl _ _).drew);have jo := j1.o;rw [HL.out] at jo;have j2 := j1.alloc (.cells #[.int .i64 (x + y)] 3);have hjb := j1.b.size;refine kk0 hK (KP.out _ j2.b) ?_;clear hK K hSS;refine wo1 11 rfl fun K hK => ?_;rw [if_pos (by rfl)];refine wp_append_lies _ (.tmp 12) (.tmp 22) 23 rfl w.heap.size 3 i0 (.int .i64 0) 1 8 Tryz.underlying23 hi hz0 hz1 hz2 rfl (by decide) _ k _ (by rfl) (jo.alloc _) ⟨wr.heap.size, 0, none⟩ 1 1 [.int .i64 (x + y)] (by rfl) (by rfl) (news1 wr.drew) (one1) (by omega) (by unfold maxLen; omega) (by omega) j2.b.size _ rfl ?_;intro g cp2 w6 hown hgrow hat hlt6;have j6 := j1.app HL.out hown hgrow;refine kk0 hK (KP.out _ j6.b) ?_;clear hK K hown hgrow hat j1 j2 jo j;refine wo1 12 rfl fun K hK => ?_;go_simp;refine kk0 hK (KP.out _ j6.b) ?_;refine wod ?_ _
   go_wp2
   go_roundw
   case rel => exact ⟨k + 1, by omega, by go_num, _, by rw [List.length_append, HL.out]; rfl, by rw [HP.out, HZS.out], j6⟩
   case measure => simp [intOf]; omega
  obtain rfl : k = 3 := by omega
  have e : zs = List.zipWith (· + ·) xs ys := by rw [HZS.out, List.take_of_length_le (by rw [List.length_zipWith, HX.out, HY.out]; omega)]
  subst e
  go_wp2
  go_ret
  exact ⟨_, rfl, j⟩
theorem sums_any {c : Option Addr} {cap' : Nat} (xs ys : List Int) (M M' : Int) {w : World} (h : Ints w a 3 xs) (h' : Ints w c 3 ys) (hM : bnd M xs) (hM' : bnd M' ys) (hb : M <= 2000000000000000000 := by omega) (hb' : M' <= 2000000000000000000 := by omega) :
  Calls Tryz.prog 124 #[.slice a 3 cap, .slice c 3 cap'] w fun e w' => ∃ a' cap2 B, e = .returned (.slice a' 3 cap2) /\ Below w.heap.size w w' /\ OwnX w' a' B 3 (List.zipWith (· + ·) xs ys) /\ w.heap.size <= B := by
 have HX : Hid (xs.length = 3) := h.1
 go_enter Tryz.func124, Tryz.ntmps124
 go_wp2_with fail
 refine (clone_any _ _ xs h).mono ?_;rintro e w1 ⟨v, rfl, j⟩;have hc1 := h'.below j.b;have B1 := j.b;obtain ⟨x, cx, B, rfl, hO, hB0⟩ := j.ownx HX.out;have hB := hB0 (by omega);clear j hB0
 go_wp2_with fail
 refine (addX_any B xs ys M M' hO hc1 (fun b o e => by
  obtain ⟨b1, o1, e1, hcell⟩ := h'.pos (by omega);rw [e1] at e;simp only [Option.some.injEq, Addr.mk.injEq, and_true] at e;have := block_lt (hcell 0 (by omega))
  omega) (by omega) hM hM' hb hb').mono ?_
 rintro e w2 ⟨rfl, t2, hO2⟩;have B2 : Below w.heap.size w w2 := B1.trans (t2.below B1.size (fun k hk => by rw [hk.1]; exact hB))
 go_wp2
 go_ret
 exact ⟨_, _, B, rfl, B2, hO2, hB⟩
theorem others_bnd {D : List Int} {s : Int} (bD : ∀ i : Nat, i < D.length -> 0 <= D[i]?.getD 0 /\ D[i]?.getD 0 <= 50) : ∀ k : Nat, k <= D.length -> k <= 3 -> 0 <= others D s k /\ others D s k <= 50 * k
 | 0, _, _ => by simp [others]
 | k + 1, hk, h3 => by
  have ih := others_bnd (s := s) bD k (by omega) (by omega);have d := bD k (by omega);rw [others]
  split
  ·omega
  rw [IntWalk.wrap64_in _ ⟨by omega, by omega⟩]
  omega
theorem zero_part {C : List Int} (hl : C.length = 3) (b : bnd 10000000 C) : eqB (partL C) [0, 0, 0] = allB 0 C := by
 match C, hl with
 | [x, y, z], _ =>
  have b0 := b 0;have b1 := b 1;have b2 := b 2;simp only [qB, qC, Option.getD_some] at b0 b1 b2;have hs : sg [x, y, z] = 1 \/ sg [x, y, z] = -1 := by unfold sg; split <;> simp
  have e : partL [x, y, z] = [wrap64 (sg [x, y, z] * x), wrap64 (sg [x, y, z] * y), wrap64 (sg [x, y, z] * z)] := rfl;rw [e];generalize sg [x, y, z] = g at *;rw [eqB, allB, Bool.eq_iff_iff, decide_eq_true_eq];simp only [List.cons.injEq, and_true, List.all_cons, List.all_nil, Bool.and_true, Bool.and_eq_true, inB_iff]
  rcases hs with rfl | rfl
  ·rw [IntWalk.wrap64_in _ ⟨by omega, by omega⟩, IntWalk.wrap64_in _ ⟨by omega, by omega⟩, IntWalk.wrap64_in _ ⟨by omega, by omega⟩]
   omega
  rw [IntWalk.wrap64_in _ ⟨by omega, by omega⟩, IntWalk.wrap64_in _ ⟨by omega, by omega⟩, IntWalk.wrap64_in _ ⟨by omega, by omega⟩]
  omega
def bokB (n m : Nat) (C D : List Int) (ss : List IV) (s : Int) (k : Nat) (E : List Int) (fn fm : Nat) (FC FD : List Int) (FK : Int) (l : Nat) (U : List Int) : Bool := viewB n m C D ss s k E && (formB fn fm FC FD FK && okN 2 9 l U)
def bnds (m : Nat) (C D : List Int) (ss : List IV) (s : Int) (E : List Int) (FC FD : List Int) (FK : Int) (U : List Int) : Int × Int × Bool :=
 if eqB (partL FC) [0, 0, 0] = true then (atV FC FD FK (List.zipWith (· + ·) C E) U, atV FC FD FK (List.zipWith (· + ·) C E) U, true)
 else if hasI ss (partL FC) < 0 then (0, 0, false)
 else (atV FC FD FK (List.zipWith (· + ·) C E) U - others D s m, atV FC FD FK (List.zipWith (· + ·) C E) U + others D s m, true)
def bansB (n m : Nat) (C D : List Int) (ss : List IV) (s : Int) (k : Nat) (E : List Int) (fn fm : Nat) (FC FD : List Int) (FK : Int) (l : Nat) (U : List Int) : Int × Int × Bool :=
 if bokB n m C D ss s k E fn fm FC FD FK l U = true then bnds m C D ss s E FC FD FK U else (0, 0, false)
def ansV (x : Int × Int × Bool) : Value := .tuple #[.int .i64 x.1, .int .i64 x.2.1, .bool x.2.2]
theorem hasI_copy {ss ts : List IV} {part : List Int} (hl : ts.length = ss.length) (h : copiesIS ss ts) : hasI ts part = hasI ss part := by
 have e : ∀ l : List IV, l.map IV.x = (l.map (fun p => (p.n, p.x))).map (fun q => q.2) := fun l => by rw [List.map_map]; rfl
 rw [hasI, hasI, e, e, copies_pair hl h]
theorem JA.slice3 {w W : World} {v : Value} {xs : List Int} (j : JA w v xs W) (hn : xs.length = 3) : ∃ a cap, v = .slice a 3 cap /\ Ints W a 3 xs := by
 obtain ⟨a, cap, B, rfl, ho, _⟩ := j.ownx hn
 exact ⟨a, cap, rfl, ho.ints⟩
theorem vbounds_any (a : Option Addr) (cap : Nat) (c : Option Addr) (m cap' : Nat) (ad : Option Addr) (N pc : Nat) (s : Int) (e : Option Addr) (ec : Nat) (u : Option Addr) (uc : Nat) (fa : Option Addr) (fcap : Nat) (fc : Option Addr) (fcap' : Nat) (FK : Int) (C D E U FC FD : List Int) (ss : List IV) (w : World)
  (hC : Ints w a 3 C) (hD : Ints w c m D) (hE : Ints w e 3 E) (hU : Ints w u 2 U) (hA : Ints w fa 3 FC) (hB : Ints w fc 2 FD) (hN : ss.length = N) (hF : ISG w ad ss) (hN1 : N <= 1048576) (hm3 : m <= 3)
  (bC : bnd 10000 C) (bE : bnd 20000 E) (bU : bnd 9 U) (bA : bnd 10000000 FC) (bB : bnd 10000000 FD) (bK : -10000000 <= FK /\ FK <= 10000000) (bD : ∀ i : Nat, i < D.length -> 0 <= D[i]?.getD 0 /\ D[i]?.getD 0 <= 50) :
  Calls Tryz.prog 122 #[viewV a 3 cap c m cap' ad N pc s e 3 ec u 2 uc, formV fa 3 fcap fc 2 fcap' FK] w fun r w' => ∃ x, x = bnds m C D ss s E FC FD FK U /\ r = .returned (.agg #[.int .i64 x.1, .int .i64 x.2.1, .bool x.2.2]) /\ Below w.heap.size w w' := by
 have HN : Hid (ss.length = N) := hN;have HZ : Hid ((List.zipWith (· + ·) C E).length = 3) := by show _ = _; rw [List.length_zipWith, hC.1, hE.1]; rfl
 have bV : bnd 30000 (List.zipWith (· + ·) C E) := fun i => by have := bnd_zip (by rw [hC.1, hE.1]) bC bE i; omega
 have ob := others_bnd (s := s) bD m (by rw [hD.1]; exact qD _) hm3;have p1 := dot_bnd (bndP_of bA bV) 3;have p2 := dot_bnd (bndP_of bB bU) 2;have HP : Hid (eqB (partL FC) [0, 0, 0] = allB 0 FC) := zero_part hA.1 bA;obtain ⟨x, hx⟩ : ∃ x, x = bnds m C D ss s E FC FD FK U := ⟨_, rfl⟩
 have HX : Hid _ := hx;have HV : Hid (bnd 30000 (List.zipWith (· + ·) C E)) := bV;obtain ⟨n, hn⟩ : ∃ n, n = atV FC FD FK (List.zipWith (· + ·) C E) U := ⟨_, rfl⟩
 obtain ⟨o, ho⟩ : ∃ o, o = others D s m := ⟨_, rfl⟩
 have n1 : -10000000000000 <= n := by rw [hn]; unfold atV; omega
 have n2 : n <= 10000000000000 := by rw [hn]; unfold atV; omega
 rw [<- ho] at ob;rw [bnds, <- hn, <- ho] at hx;have HI : Hid _ := hx;have HNN : Hid _ := hn;have HO : Hid _ := ho;obtain ⟨o1, o2⟩ := ob;have o3 : o <= 150 := by omega
 have BCE : Hid (bnd 10000 C /\ bnd 20000 E) := ⟨bC, bE⟩
 clear hN hx hn ho o2 p1 p2 bV bD bC bE;have q_0 := ((Cel.new w [.slice a 3 cap, .slice c m cap', .slice ad N pc, .int .i64 s, .slice e 3 ec, .slice u 2 uc] 136).alloc (.cells #[.slice fa 3 fcap, .slice fc 2 fcap', .int .i64 FK] 106)).alloc (.cells #[.int .i64 0, .int .i64 0, .bool false] 177);have f_0 := (Cel.new (w.alloc (.cells #[.slice a 3 cap, .slice c m cap', .slice ad N pc, .int .i64 s, .slice e 3 ec, .slice u 2 uc] 136)) [.slice fa 3 fcap, .slice fc 2 fcap', .int .i64 FK] 106).alloc (.cells #[.int .i64 0, .int .i64 0, .bool false] 177);have r_0 := Cel.new ((w.alloc (.cells #[.slice a 3 cap, .slice c m cap', .slice ad N pc, .int .i64 s, .slice e 3 ec, .slice u 2 uc] 136)).alloc (.cells #[.slice fa 3 fcap, .slice fc 2 fcap', .int .i64 FK] 106)) [.int .i64 0, .int .i64 0, .bool false] 177;have B_0 := (((Below.refl w.heap.size w).alloc (qD _) (.cells #[.slice a 3 cap, .slice c m cap', .slice ad N pc, .int .i64 s, .slice e 3 ec, .slice u 2 uc] 136)).alloc (by simp) (.cells #[.slice fa 3 fcap, .slice fc 2 fcap', .int .i64 FK] 106)).alloc (by simp; omega) (.cells #[.int .i64 0, .int .i64 0, .bool false] 177);rw [qA] at f_0;rw [qA, qA] at r_0
 go_enter Tryz.func122, Tryz.ntmps122
 go_upto_region 1 with fail
 obtain ⟨W, hW⟩ : ∃ W, W = ((w.alloc (.cells #[.slice a 3 cap, .slice c m cap', .slice ad N pc, .int .i64 s, .slice e 3 ec, .slice u 2 uc] 136)).alloc (.cells #[.slice fa 3 fcap, .slice fc 2 fcap', .int .i64 FK] 106)).alloc (.cells #[.int .i64 0, .int .i64 0, .bool false] 177) := ⟨_, rfl⟩
 rw [<- hW] at q_0 f_0 r_0 B_0 ⊢;clear hW;have CC : Hid (∀ X : World, Cel X w.heap.size [.slice a 3 cap, .slice c m cap', .slice ad N pc, .int .i64 s, .slice e 3 ec, .slice u 2 uc] 136 -> Cel X (w.heap.size + 1) [.slice fa 3 fcap, .slice fc 2 fcap', .int .i64 FK] 106 -> X.cell? ⟨w.heap.size, 0, none⟩ = some (.slice a 3 cap) /\ X.cell? ⟨w.heap.size, 1, none⟩ = some (.slice c m cap') /\ X.cell? ⟨w.heap.size, 2, none⟩ = some (.slice ad N pc) /\ X.cell? ⟨w.heap.size, 3, none⟩ = some (.int .i64 s) /\ X.cell? ⟨w.heap.size, 4, none⟩ = some (.slice e 3 ec) /\ X.cell? ⟨w.heap.size, 5, none⟩ = some (.slice u 2 uc) /\ X.cell? ⟨w.heap.size + 1, 0, none⟩ = some (.slice fa 3 fcap) /\ X.cell? ⟨w.heap.size + 1, 1, none⟩ = some (.slice fc 2 fcap') /\ X.cell? ⟨w.heap.size + 1, 2, none⟩ = some (.int .i64 FK)) := fun X h1 h2 => ⟨h1.cell 0, h1.cell 1, h1.cell 2, h1.cell 3, h1.cell 4, h1.cell 5, h2.cell 0, h2.cell 1, h2.cell 2⟩
 have hn0 := CC.out W q_0 f_0
 go_region_held3 (fun w' => w'.cell? ⟨w.heap.size, 0, none⟩ = some (.slice a 3 cap) /\ w'.cell? ⟨w.heap.size, 1, none⟩ = some (.slice c m cap') /\ w'.cell? ⟨w.heap.size, 2, none⟩ = some (.slice ad N pc) /\ w'.cell? ⟨w.heap.size, 3, none⟩ = some (.int .i64 s) /\ w'.cell? ⟨w.heap.size, 4, none⟩ = some (.slice e 3 ec) /\ w'.cell? ⟨w.heap.size, 5, none⟩ = some (.slice u 2 uc) /\ w'.cell? ⟨w.heap.size + 1, 0, none⟩ = some (.slice fa 3 fcap) /\ w'.cell? ⟨w.heap.size + 1, 1, none⟩ = some (.slice fc 2 fcap') /\ w'.cell? ⟨w.heap.size + 1, 2, none⟩ = some (.int .i64 FK)) (first | with_reducible assumption | exact hn0)
  (first
   | (go_at_call 124
      refine (sums_any C E _ _ (by exact hC.below B_0.drew) (by exact hE.below B_0.drew) BCE.out.1 BCE.out.2).mono ?_;rintro ee w1 ⟨va, vc, VB, rfl, bd_1, hO, -⟩;have b_1 := below_of_drew bd_1;have B_1 := btr B_0 b_1;have q_1 := q_0.below b_1;have f_1 := f_0.below b_1;have r_1 := r_0.below b_1
      have hn1 := CC.out w1 q_1 f_1)
   | (go_at_call 148
      refine (iat30_any _ _ _ _ _ FC FD _ _ _ _ (List.zipWith (· + ·) C E) U _ (by exact hA.below B_1) (by exact hB.below B_1) hO.ints (by exact hU.below B_1) bA bB bK HV.out bU).mono ?_;rintro ee w2 ⟨rfl, b_2⟩;rw [<- HNN.out];have B_2 := btr B_1 b_2;have q_2 := q_1.below b_2;have f_2 := f_1.below b_2;have r_2 := r_1.below b_2
      have hn2 := CC.out w2 q_2 f_2))
 clear hn0 hn1 hO bd_1 b_1 b_2 B_0 B_1 q_0 q_1 f_0 f_1 r_0 r_1;obtain ⟨k0, k1, k2, k3, k4, k5, k6, k7, k8⟩ := hn2
 cases hz : allB 0 FC
 ·go_wp2_with fail
  refine (within_any _ _ _ FC (hA.below B_2) (by omega)).mono ?_;rintro ee w3 ⟨rfl, rfl⟩;rw [hz]
  go_upto_region 4 with fail
  have hn3 := CC.out _ q_2 f_2
  go_region_held3 (fun w' => w'.cell? ⟨w.heap.size, 0, none⟩ = some (.slice a 3 cap) /\ w'.cell? ⟨w.heap.size, 1, none⟩ = some (.slice c m cap') /\ w'.cell? ⟨w.heap.size, 2, none⟩ = some (.slice ad N pc) /\ w'.cell? ⟨w.heap.size, 3, none⟩ = some (.int .i64 s) /\ w'.cell? ⟨w.heap.size, 4, none⟩ = some (.slice e 3 ec) /\ w'.cell? ⟨w.heap.size, 5, none⟩ = some (.slice u 2 uc) /\ w'.cell? ⟨w.heap.size + 1, 0, none⟩ = some (.slice fa 3 fcap) /\ w'.cell? ⟨w.heap.size + 1, 1, none⟩ = some (.slice fc 2 fcap') /\ w'.cell? ⟨w.heap.size + 1, 2, none⟩ = some (.int .i64 FK)) (first | with_reducible assumption | exact hn3)
   (first
    | (go_at_call 139
       refine (ipart_any _ _ FC (by exact hA.below B_2.drew)).mono ?_;rintro ee w4 ⟨rfl, bd_4, kp⟩;have b_4 := below_of_drew bd_4;have B_4 := btr B_2 b_4;have q_4 := q_2.below b_4;have f_4 := f_2.below b_4;have r_4 := r_2.below b_4
       have hn4 := CC.out w4 q_4 f_4)
    | (go_at_call 149
       refine (ihas_any ss (partL FC) HN.out (by exact hF.below B_4) hN1 (by exact kp.ints' (by rw [part_len]; exact hA.1)) (by omega)).mono ?_;rintro ee w5 ⟨rfl, b_5⟩;have B_5 := btr B_4 b_5;have q_5 := q_4.below b_5;have f_5 := f_4.below b_5;have r_5 := r_4.below b_5
       have hn5 := CC.out w5 q_5 f_5))
  clear hn3 hn4 bd_4 b_4 b_5 B_2 B_4 q_2 q_4 f_2 f_4 r_2 r_4 kp k0 k1 k2 k3 k4 k5 k6 k7 k8;obtain ⟨k0, k1, k2, k3, k4, k5, k6, k7, k8⟩ := hn5;have d0 := r_5.cell 0;have d1 := r_5.cell 1;have d2 := r_5.cell 2;have e0 := r_5.free 0;have e1 := r_5.free 1;have e2 := r_5.free 2;have lt := r_5.lt;simp only [qB, qC] at d0 d1 d2
  by_cases hh : hasI ss (partL FC) < 0
  ·have X : x = (0, 0, false) := by rw [HI.out, HP.out, hz, if_neg (by decide), if_pos hh]
   have HX2 : Hid _ := X;clear X
   go_wp2
   refine bodyPost_ret (v := .agg #[.int .i64 0, .int .i64 0, .bool false]) (by simp [results, Tryz.results122, go_sem, d0, d1, d2]) rfl ⟨x, HX.out, by rw [HX2.out], ?_⟩
   exact (((B_5.setCell (by simp only []; omega) _).setCell (by simp only []; omega) _).setCell (by simp only []; omega) _)
  have X : x = (n - o, n + o, true) := by rw [HI.out, HP.out, hz, if_neg (by decide), if_neg hh]
  have HX2 : Hid _ := X;clear X
  go_wp2_with fail
  refine (iothers_any D s (hD.below B_5) (by omega)).mono ?_;rintro ee w6 ⟨rfl, b_6⟩;rw [<- HO.out];have B_6 := btr B_5 b_6;have r_6 := r_5.below b_6;clear d0 d1 d2 e0 e1 e2 lt;have d0 := r_6.cell 0;have d1 := r_6.cell 1;have d2 := r_6.cell 2;have e0 := r_6.free 0;have e1 := r_6.free 1;have e2 := r_6.free 2;have lt := r_6.lt;simp only [qB, qC] at d0 d1 d2
  go_wp2
  refine bodyPost_ret (v := .agg #[.int .i64 (n - o), .int .i64 (n + o), .bool true]) (by simp [results, Tryz.results122, go_sem, d0, d1, d2]) rfl ⟨x, HX.out, by rw [HX2.out], ?_⟩
  exact (((B_6.setCell (by simp only []; omega) _).setCell (by simp only []; omega) _).setCell (by simp only []; omega) _)
 have X : x = (n, n, true) := by rw [HI.out, HP.out, hz, if_pos rfl]
 have HX2 : Hid _ := X;clear X
 go_wp2_with fail
 refine (within_any _ _ _ FC (hA.below B_2) (by omega)).mono ?_;rintro ee w3 ⟨rfl, rfl⟩;rw [hz];have d0 := r_2.cell 0;have d1 := r_2.cell 1;have d2 := r_2.cell 2;have e0 := r_2.free 0;have e1 := r_2.free 1;have e2 := r_2.free 2;have lt := r_2.lt;simp only [qB, qC] at d0 d1 d2
 go_wp2
 refine bodyPost_ret (v := .agg #[.int .i64 n, .int .i64 n, .bool true]) (by simp [results, Tryz.results122, go_sem, d0, d1, d2]) rfl ⟨x, HX.out, by rw [HX2.out], ?_⟩
 exact (((B_2.setCell (by simp only []; omega) _).setCell (by simp only []; omega) _).setCell (by simp only []; omega) _)
end Go.Proofs.YtfmpcihghlnlnaaGreatDoor
