/- What servitorref15's New and lined answer; what was in memory is as it was. No condition beyond what each line says. What servitorref15's lined answers of an axis whose limits, state and line are right; what was in memory is as it was. No condition beyond what each line says. What servitorref15's lined answers of an axis in Discrete, and of any; what was in memory is as it was. No condition beyond what each line says. -/
import Derived.Test.YtijlccblabadaaaGreatV16
import Derived.Test.YtijlccblabadaaaGreatU01
section
namespace Go.Proofs.YtijlccblabadaaaGreat.ax
set_option maxRecDepth 100000
open Go.ChangeShapes Go.WideShapes Go.ChangeAt Go.RowKit Go.Proofs.YtijlccblabadaaaGreat.k Go.Proofs.YtijlccblabadaaaGreat.rr
open Go.Proofs.YtijlccblabadaaaGreat.ln (C RdC RdI iC iC_len iC_one cC cC_len cells_com OwC)
set_option linter.unusedVariables false
abbrev zA : Array Value := #[.int .i64 0, .int .i64 0, .int .i64 0, .int .i64 0, .int .i64 0, .int .i64 0, .int .i64 0, .int .i64 0, .int .i64 0, .int .i64 0, .int .i64 0, .int .i64 0, .slice none 0 0, .int .i64 0, .slice none 0 0, .slice none 0 0, .bool false, .int .i64 0, .int .i64 0, .int .i64 0, .bool false, .int .i64 0, .int .i64 0, .int .i64 0, .int .i64 0, .bool false]
theorem axA_one (a : Ax) (S N W : Sl) : (axA a S N W).all (·.oneCell') = true := all_oneCell_toArray (cs := axC a S N W) (by
 intro v hv
 simp only [axC, List.mem_cons, List.not_mem_nil, or_false] at hv
 rcases hv with rfl | rfl | rfl | rfl | rfl | rfl | rfl | rfl | rfl | rfl | rfl | rfl | rfl | rfl | rfl | rfl | rfl | rfl | rfl | rfl | rfl | rfl | rfl | rfl | rfl | rfl <;> rfl)
theorem axA_stored {w : World} {g : Nat} {vs : List Value} (a : Ax) (S N W : Sl) (h : k.Box w g 0 vs) (hl : vs.length = 26) : ∃ W', w.setCells g 0 (axA a S N W).toList = W' ∧ k.Box W' g 0 (axC a S N W) ∧ W'.heap.size = w.heap.size ∧ (∀ B, B ≤ g → Below B w W') ∧ ∀ lo, g < lo → Above lo w W' :=
 k.stored (us := axC a S N W) h (by rw [hl]; rfl)
theorem ol_stored {w W' : World} {base g : Nat} {us : List Value} (hW : w.setCells g 0 us = W') {v : Value} {l : List Int} (h : OwL w base v l) (hg : g < base) : OwL W' base v l := by
 subst hW
 have key : ∀ (us : List Value) (o : Nat) (w : World), OwL w base v l → OwL (w.setCells g o us) base v l := fun us => by
  induction us with
  | nil => intro o w h; exact h
  | cons u us ih => intro o w h; exact ih (o + 1) _ (ol_set h hg u)
 exact key us 0 w h
set_option maxRecDepth 100000 in
set_option maxHeartbeats 4000000 in
theorem refnew_any (l : Lm) (win homeAt fast creep : Int) (h0 : 0 ≤ win) (h1 : win ≤ 1000) (w : World) :
  Calls Tryz.prog 12 #[lmV l, .int .i64 win, .int .i64 homeAt, .int .i64 fast, .int .i64 creep] w fun e w' => ∃ A n c, e = .returned (axV (newA l win homeAt fast creep) ⟨A, n, c⟩ ⟨none, 0, 0⟩ ⟨none, 0, 0⟩) ∧ OwL w' w.heap.size (.slice A n c) (full win 0) ∧ Below w.heap.size w w' := by
 obtain ⟨x1, x2, x3, x4⟩ := k.boxes2 (w := w) (c1 := lmA l) (t1 := 23) (c2 := zA) (t2 := 35) (Below.refl _ _)
 have X1 := lh x1
 have X2 := lh x2
 have X3 := lh x3
 have CF := lh fun W' : World => reffull_any win h0 h1 0 W'
 clear x1 x2 x3
 go_enter Tryz.func12, Tryz.ntmps12
 go_upto_region 1 with fail
 generalize (w.alloc (.cells (lmA l) 23)).alloc (.cells zA 35) = w2 at X1 X2 X3 x4 ⊢
 refine wp_region_T (by kernel_rfl) (fun w' => k.Box w' w.heap.size 0 (lmC l)) [] X1.out (fun hHeld => ?_)
 refine tk 0 rfl ?_ ?_ ?_
 rotate_left
 ·intro w_ hSw; obtain ⟨c0, _, c1, _, c2, _, c3, _, c4, _, _⟩ := hSw; go_simp <;> (with_reducible rfl)
 try go_simp
 refine tk0 1 rfl ?_ ?_ ?_
 rotate_left
 ·intro; go_simp <;> with_reducible rfl
 try go_simp
 refine tk0 2 rfl ?_ ?_ ?_
 rotate_left
 ·intro; go_simp <;> with_reducible rfl
 try go_simp
 refine tk0 3 rfl ?_ ?_ ?_
 rotate_left
 ·intro; go_simp <;> with_reducible rfl
 try go_simp
 refine tk0 4 rfl ?_ ?_ ?_
 rotate_left
 ·intro; go_simp <;> with_reducible rfl
 try go_simp
 refine tk0 5 rfl ?_ ?_ ?_
 rotate_left
 ·intro; go_simp <;> with_reducible rfl
 try go_simp
 refine ry [6] ?_
 refine ar1 rfl fun K hK => ?_
 go_simp
 (go_at_call 28; ((refine (CF.out _).mono ?_); rintro e w3 ⟨A3, n3, c3, rfl, ho, hb⟩))
 go_wp2_with fail
 have hb3 : Below w2.heap.size w2 w3 := (show Below w2.heap.size w2 w2.drew from (Below.refl _ _).drew).trans hb
 have Y1 := X1.out.below hb3 (by omega)
 have Y2 := lh (X2.out.below hb3 x4)
 have Y3 := lh (X3.out.trans (hb3.mono X3.out.size))
 have HO := lh (show OwL w3 w2.heap.size (.slice A3 n3 c3) (full win 0) from ho)
 clear hb hb3 ho X1 X2 X3 CF
 refine hK.out _ _ Y1 (fun hHeld => ?_)
 clear hK K
 try go_simp
 refine tk0 7 rfl ?_ ?_ ?_
 rotate_left
 ·intro; go_simp <;> with_reducible rfl
 try go_simp
 refine ry [8] ?_
 refine ar1 rfl fun K hK => ?_
 obtain ⟨w4, e4, Z1, _, Z3, Z4⟩ := axA_stored (newA l win homeAt fast creep) ⟨A3, n3, c3⟩ ⟨none, 0, 0⟩ ⟨none, 0, 0⟩ Y2.out rfl
 have V1 := lh Z1
 have V2 := lh (Y3.out.trans (Z3 _ (show w.heap.size ≤ w.heap.size + 1 by omega)))
 have V3 := lh ((ol_stored e4 HO.out x4).base (show w.heap.size ≤ w2.heap.size by omega))
 rw [if_pos (by rfl)]
 refine wp_store_mid 35 (.tmp 10) (.tmp 18) rfl (w.heap.size + 1) 0 (axA (newA l win homeAt fast creep) ⟨A3, n3, c3⟩ ⟨none, 0, 0⟩ ⟨none, 0, 0⟩) rfl rfl (k.there_of Y2.out rfl) (by kernel_rfl) (axA_one _ _ _ _) ?_
 rw [e4]
 have Y1' := (Z3 (w.heap.size + 1) (Nat.le_refl _))
 clear Z1 Z3 Z4 e4 Y2 Y3 HO
 refine hK.out _ _ (Box.below Y1 Y1' (Nat.lt_succ_self _)) (fun hHeld => ?_)
 clear hK K Y1'
 try simp only [Act.put, List.getElem_toArray, List.getElem_cons_succ, List.getElem_cons_zero]
 refine wpAnyT_done (by kernel_rfl) ?_ _
 go_wp2
 refine bodyPost_ret (k.results_cell rfl rfl (run_loadVar_mid w4 (w.heap.size + 1) 0 35 _ _ V1.out.range rfl rfl (by kernel_rfl))) rfl ⟨A3, n3, c3, rfl, V3.out, V2.out⟩
end Go.Proofs.YtijlccblabadaaaGreat.ax
end
section
namespace Go.Proofs.YtijlccblabadaaaGreat.ax
set_option maxRecDepth 100000
open Go.ChangeShapes Go.WideShapes Go.ChangeAt Go.RowKit Go.Proofs.YtijlccblabadaaaGreat.k Go.Proofs.YtijlccblabadaaaGreat.rr
open Go.Proofs.YtijlccblabadaaaGreat.ln (C RdC RdI iC iC_len iC_one cC cC_len cells_com OwC oc_row)
set_option linter.unusedVariables false
noncomputable def linedB (a : Ax) : Bool := @decide (LinedP a) (Classical.propDecidable _)
theorem lined_yes {a : Ax} (h : LinedP a) : linedB a = true := @decide_eq_true _ (Classical.propDecidable _) h
theorem lined_no {a : Ax} (h : ¬ LinedP a) : linedB a = false := @decide_eq_false _ (Classical.propDecidable _) h
theorem lined_no1 {a : Ax} {c : C} {T : List C} (hN : a.N = c :: T) (h : ¬ Lined1 a c) : linedB a = false := lined_no fun hl => h (one_lined hl hN)
def Mv (a : Ax) (q : Nat) (x : C) : Prop := MoveP a x ∧ (0 < q → 1 ≤ x.mode)
theorem moves_yes {a : Ax} {c : C} (hN : a.N = [c]) (h4 : a.st = 4) (h : ∀ q x, (a.N ++ a.W)[q]? = some x → Mv a q x) : linedB a = true := by
 rw [hN] at h
 refine lined_yes (lined_one hN (.inr (.inr (.inr (.inr ⟨h4, .inr ⟨(h 0 c rfl).1, fun x hx => ?_⟩⟩)))))
 obtain ⟨i, hi, rfl⟩ := List.getElem_of_mem hx
 have := h (i + 1) a.W[i] (by rw [List.singleton_append, List.getElem?_cons_succ]; exact List.getElem?_eq_getElem hi)
 exact ⟨this.1, this.2 (by omega)⟩
theorem moves_no {a : Ax} {c x : C} {q : Nat} (hN : a.N = [c]) (h4 : a.st = 4) (h5 : c.kind ≠ 5) (hx : (a.N ++ a.W)[q]? = some x) (h : ¬ Mv a q x) : linedB a = false := by
 refine lined_no1 hN fun hl => h ?_
 rw [hN] at hx
 rcases hl with ⟨e, _⟩ | ⟨e, _⟩ | ⟨e, _⟩ | ⟨e, _⟩ | ⟨_, ⟨e, _⟩ | ⟨e1, e2⟩⟩
 ·omega
 ·omega
 ·omega
 ·omega
 ·exact absurd e h5
 ·cases q with
  | zero =>
   have e : c = x := by simpa using hx
   subst e
   exact ⟨e1, fun h0 => absurd h0 (by omega)⟩
  | succ q =>
   rw [List.singleton_append, List.getElem?_cons_succ] at hx
   have := e2 x (List.mem_of_getElem? hx)
   exact ⟨this.1, fun _ => this.2⟩
theorem row_one {w : World} {B : Nat} {A : Option Addr} {n cap : Nat} {c : C} (h : RdC w B A n cap [c]) : n = 1 ∧ ∃ b o, A = some ⟨b, o, none⟩ ∧ b < B ∧ w.rangeAt b o (cC c) := by
 have hn : n = 1 := h.1.symm
 subst hn
 obtain ⟨b, o, x, e, hb, hx, hr⟩ := h.at (i := 0) (by omega)
 have ex : c = x := by simpa using hx
 subst ex
 rw [Nat.zero_mul, Nat.add_zero] at hr
 exact ⟨rfl, b, o, e, hb, hr⟩
set_option maxRecDepth 100000 in
set_option maxHeartbeats 4000000 in
theorem lined_none_any (a : Ax) (hl : ln.RightL a.N a.W) (hN : a.N = []) (S N W : Sl) {B : Nat} (w : World) (h : RdC w B N.A N.n N.c a.N) (h2 : RdC w B W.A W.n W.c a.W) (hB : B ≤ w.heap.size) :
  Calls Tryz.prog 39 #[axV a S N W] w fun e w' => e = .returned (.bool (linedB a)) ∧ Below w.heap.size w w' := by
 obtain ⟨x1, x2, x3⟩ := k.boxes1 (w := w) (c1 := axA a S N W) (t1 := 35) (Below.refl _ _)
 have X1 := lh x1
 have X2 := lh x2
 have hW : a.W = [] := by
  have h4 := hl.2.2.2
  rw [hN] at h4
  exact List.eq_nil_of_length_eq_zero (by simpa using h4)
 have hn : (N.n : Int) = 0 := by have := h.1; rw [hN] at this; simp at this; omega
 have hm : (W.n : Int) = 0 := by have := h2.1; rw [hW] at this; simp at this; omega
 have HV : Hid ((a.st < 2 ∨ a.st = 3 ∨ a.st = 7 → linedB a = true) ∧ (¬ (a.st < 2 ∨ a.st = 3 ∨ a.st = 7) → linedB a = false)) := lh ⟨fun hs => lined_yes (lined_none hN hW hs), fun hs => lined_no fun hl => hs (none_lined hl hN).2⟩
 clear x1 x2 h h2 hB hl hN hW
 go_enter Tryz.func39, Tryz.ntmps39
 go_upto_region 1 with fail
 generalize w.alloc (.cells (axA a S N W) 35) = w2 at X1 X2 x3 ⊢
 have ⟨q0, _⟩ := k.cell_of X1.out (i := 0) rfl
 have ⟨q1, _⟩ := k.cell_of X1.out (i := 1) rfl
 have ⟨q14, _⟩ := k.cell_of X1.out (i := 14) rfl
 have ⟨q15, _⟩ := k.cell_of X1.out (i := 15) rfl
 clear X1
 by_cases s1 : a.st < 2
 ·have HVV := lh (HV.out.1 (.inl s1))
  go_wp2
  go_quiet (fail)
  go_wp2
  go_ret
  exact ⟨ret_bool HVV.out.symm, below_drawn X2.out _⟩
 ·by_cases s3 : a.st = 3
  ·have HVV := lh (HV.out.1 (.inr (.inl s3)))
   have i1 : (a.st == 3) = true := by rw [s3]; rfl
   have i2 : decide (a.st < 2) = false := decide_eq_false s1
   clear s3
   go_wp2
   go_quiet (fail)
   go_wp2
   go_ret
   exact ⟨ret_bool HVV.out.symm, below_drawn X2.out _⟩
  ·have i1 : (a.st == 3) = false := by rw [beq_eq_false_iff_ne]; exact s3
   have i2 : decide (a.st < 2) = false := decide_eq_false s1
   by_cases s7 : a.st = 7
   ·have HVV := lh (HV.out.1 (.inr (.inr s7)))
    have i3 : (a.st == 7) = true := by rw [s7]; rfl
    clear s7 s3
    go_wp2
    go_quiet (fail)
    go_wp2
    go_ret
    exact ⟨ret_bool HVV.out.symm, below_drawn X2.out _⟩
   ·have HVV := lh (HV.out.2 (fun h => h.elim s1 (fun h => h.elim s3 s7)))
    have i3 : (a.st == 7) = false := by rw [beq_eq_false_iff_ne]; exact s7
    clear s7 s3
    go_wp2
    go_quiet (fail)
    go_wp2
    go_ret
    exact ⟨ret_bool HVV.out.symm, below_drawn X2.out _⟩
theorem beq_no {x y : Int} (h : x ≠ y) : (x == y) = false := by rw [beq_eq_false_iff_ne]; exact h
theorem beq_yes {x y : Int} (h : x = y) : (x == y) = true := by rw [h]; exact beq_self_eq_true y
set_option maxRecDepth 100000 in
set_option maxHeartbeats 4000000 in
theorem lined_one_any (a : Ax) (hl : ln.RightL a.N a.W) (hv : 1 ≤ a.l.V ∧ a.l.V ≤ 1048576) (c : C) (hN : a.N = [c]) (h04 : a.st ≠ 4) (S N W : Sl) {B : Nat} (w : World) (h : RdC w B N.A N.n N.c a.N) (h2 : RdC w B W.A W.n W.c a.W) (hB : B ≤ w.heap.size) :
  Calls Tryz.prog 39 #[axV a S N W] w fun e w' => e = .returned (.bool (linedB a)) ∧ Below w.heap.size w w' := by
 obtain ⟨x1, x2, x3⟩ := k.boxes1 (w := w) (c1 := axA a S N W) (t1 := 35) (Below.refl _ _)
 have X1 := lh x1
 have X2 := lh x2
 rw [hN] at h
 obtain ⟨hn, b, o, hA, hb, hc⟩ := row_one h
 have hn0 : (N.n : Int) = 1 := by omega
 have hn1 : ((N.n : Int) == 0) = false := beq_no (by omega)
 have hn2 : (0 : Int) < (N.n : Int) := by omega
 have hn3 : 0 < N.n := by omega
 have hc2 := range_below hc (x2.mono hB) hb
 have HWL : Hid ((a.W = [] ↔ W.n = 0)) := lh ⟨fun e => by have := h2.1; rw [e] at this; exact this.symm, fun e => List.eq_nil_of_length_eq_zero (by rw [h2.1]; exact e)⟩
 have HC := lh hc2
 have HV := lh fun (h : ¬ Lined1 a c) => lined_no1 hN h
 have HY := lh fun (h : Lined1 a c) => lined_yes (lined_one hN h)
 have ineg : IntKind.i64.wrap (-a.l.V) = -a.l.V := by rw [IntKind.wrap_i64]; omega
 have HVV := lh hv
 have HAA := lh hA
 clear x1 x2 h h2 hB hl hN hc hc2 hn hb hv hA
 go_enter Tryz.func39, Tryz.ntmps39
 go_upto_region 1 with fail
 generalize w.alloc (.cells (axA a S N W) 35) = w2 at X1 X2 x3 HC ⊢
 have ⟨q0, _⟩ := k.cell_of X1.out (i := 0) rfl
 have ⟨q1, _⟩ := k.cell_of X1.out (i := 1) rfl
 have ⟨q14, _⟩ := k.cell_of X1.out (i := 14) rfl
 have ⟨q15, _⟩ := k.cell_of X1.out (i := 15) rfl
 rw [HAA.out] at q14
 go_wp2
 go_quiet (fail)
 have Y1 := lh (X1.out.drawn nq)
 have Y2 := lh (below_drawn X2.out nq)
 have YC : Hid ((w2.drewN nq).rangeAt b o (cC c)) := lh HC.out
 have x5 : w.heap.size < (w2.drewN nq).heap.size := x3
 clear X1 X2 q0 q1 q14 q15 HC x3
 generalize w2.drewN nq = w5 at Y1 Y2 YC x5 ⊢
 have ⟨q0, _⟩ := k.cell_of Y1.out (i := 0) rfl
 have ⟨q14, _⟩ := k.cell_of Y1.out (i := 14) rfl
 rw [HAA.out] at q14
 obtain ⟨y0, y1, y2, y3, y4, y5, y6⟩ := cells_com YC.out
 clear Y1 YC
 have XE := lh fun (ob : Obj) => Y2.out.alloc Y2.out.size ob
 by_cases w0 : W.n = 0
 ·have w1 : (W.n : Int) = 0 := by omega
  have W0 : Hid (a.W = []) := lh (HWL.out.2 w0)
  clear w0
  by_cases s2 : a.st = 2
  ·have k2 : (a.st == 2) = true := beq_yes s2
   by_cases z1 : c.kind = 7
   ·have z2 : (c.kind == 7) = true := beq_yes z1
    have z3 : Hid (c.kind = 7) := lh z1
    have VV := lh (HY.out (.inl ⟨s2, W0.out, z1⟩))
    go_wp2
    go_ret
    exact ⟨ret_bool VV.out.symm, XE.out _⟩
   ·have VV := lh (HV.out (fun hh => by rcases hh with ⟨e0, e⟩ | ⟨e0, e⟩ | ⟨e0, e⟩ | ⟨e0, e⟩ | ⟨e0, e⟩ <;> first | exact absurd e0 (by omega) | (exact z1 e.2)))
    have z2 : (c.kind == 7) = false := beq_no z1
    go_wp2
    go_ret
    exact ⟨ret_bool VV.out.symm, XE.out _⟩
  ·by_cases s3 : a.st = 3
   ·have k3 : (a.st == 3) = true := beq_yes s3
    have k2 : (a.st == 2) = false := beq_no (by omega)
    by_cases z1 : c.kind = 6
    ·have z2 : (c.kind == 6) = true := beq_yes z1
     have VV := lh (HY.out (.inr (.inl ⟨s3, W0.out, z1⟩)))
     go_wp2
     go_ret
     exact ⟨ret_bool VV.out.symm, XE.out _⟩
    ·have VV := lh (HV.out (fun hh => by rcases hh with ⟨e0, e⟩ | ⟨e0, e⟩ | ⟨e0, e⟩ | ⟨e0, e⟩ | ⟨e0, e⟩ <;> first | exact absurd e0 (by omega) | (exact z1 e.2)))
     have z2 : (c.kind == 6) = false := beq_no z1
     go_wp2
     go_ret
     exact ⟨ret_bool VV.out.symm, XE.out _⟩
   ·by_cases s5 : a.st = 5
    ·have k5 : (a.st == 5) = true := beq_yes s5
     have k2 : (a.st == 2) = false := beq_no (by omega)
     have k3 : (a.st == 3) = false := beq_no (by omega)
     by_cases z1 : c.kind = 4
     ·have z2 : (c.kind == 4) = true := beq_yes z1
      by_cases z3 : c.spd ≠ 0
      ·have z4 : (c.spd == 0) = false := beq_no z3
       have z9 : (c.spd != 0) = true := bne_iff_ne.2 z3
       by_cases z5 : c.spd ≤ a.l.V
       ·skip
        by_cases z7 : -a.l.V ≤ c.spd
        ·skip
         have VV := lh (HY.out (.inr (.inr (.inl ⟨s5, W0.out, z1, z3, z5, z7⟩))))
         go_wp2
         go_ret
         exact ⟨ret_bool VV.out.symm, XE.out _⟩
        ·have VV := lh (HV.out (fun hh => by rcases hh with ⟨e0, e⟩ | ⟨e0, e⟩ | ⟨e0, e⟩ | ⟨e0, e⟩ | ⟨e0, e⟩ <;> first | exact absurd e0 (by omega) | (exact z7 e.2.2.2.2)))
         have z8 : decide (-a.l.V ≤ c.spd) = false := decide_eq_false z7
         go_wp2
         go_ret
         exact ⟨ret_bool VV.out.symm, XE.out _⟩
       ·have VV := lh (HV.out (fun hh => by rcases hh with ⟨e0, e⟩ | ⟨e0, e⟩ | ⟨e0, e⟩ | ⟨e0, e⟩ | ⟨e0, e⟩ <;> first | exact absurd e0 (by omega) | (exact z5 e.2.2.2.1)))
        have z6 : decide (c.spd ≤ a.l.V) = false := decide_eq_false z5
        go_wp2
        go_ret
        exact ⟨ret_bool VV.out.symm, XE.out _⟩
      ·have VV := lh (HV.out (fun hh => by rcases hh with ⟨e0, e⟩ | ⟨e0, e⟩ | ⟨e0, e⟩ | ⟨e0, e⟩ | ⟨e0, e⟩ <;> first | exact absurd e0 (by omega) | (exact z3 e.2.2.1)))
       have z4 : (c.spd == 0) = true := beq_yes (Classical.byContradiction z3)
       go_wp2
       go_ret
       exact ⟨ret_bool VV.out.symm, XE.out _⟩
     ·have VV := lh (HV.out (fun hh => by rcases hh with ⟨e0, e⟩ | ⟨e0, e⟩ | ⟨e0, e⟩ | ⟨e0, e⟩ | ⟨e0, e⟩ <;> first | exact absurd e0 (by omega) | (exact z1 e.2.1)))
      have z2 : (c.kind == 4) = false := beq_no z1
      go_wp2
      go_ret
      exact ⟨ret_bool VV.out.symm, XE.out _⟩
    ·by_cases s6 : a.st = 6
     ·have k6 : (a.st == 6) = true := beq_yes s6
      have k2 : (a.st == 2) = false := beq_no (by omega)
      have k3 : (a.st == 3) = false := beq_no (by omega)
      have k5 : (a.st == 5) = false := beq_no (by omega)
      by_cases z1 : c.kind = 8
      ·have z2 : (c.kind == 8) = true := beq_yes z1
       by_cases z3 : 0 < c.den
       ·skip
        have VV := lh (HY.out (.inr (.inr (.inr (.inl ⟨s6, W0.out, z1, z3⟩)))))
        go_wp2
        go_ret
        exact ⟨ret_bool VV.out.symm, XE.out _⟩
       ·have VV := lh (HV.out (fun hh => by rcases hh with ⟨e0, e⟩ | ⟨e0, e⟩ | ⟨e0, e⟩ | ⟨e0, e⟩ | ⟨e0, e⟩ <;> first | exact absurd e0 (by omega) | (exact z3 e.2.2)))
        have z4 : decide (0 < c.den) = false := decide_eq_false z3
        go_wp2
        go_ret
        exact ⟨ret_bool VV.out.symm, XE.out _⟩
      ·have VV := lh (HV.out (fun hh => by rcases hh with ⟨e0, e⟩ | ⟨e0, e⟩ | ⟨e0, e⟩ | ⟨e0, e⟩ | ⟨e0, e⟩ <;> first | exact absurd e0 (by omega) | (exact z1 e.2.1)))
       have z2 : (c.kind == 8) = false := beq_no z1
       go_wp2
       go_ret
       exact ⟨ret_bool VV.out.symm, XE.out _⟩
     ·have VV := lh (HV.out (fun hh => by rcases hh with ⟨e0, e⟩ | ⟨e0, e⟩ | ⟨e0, e⟩ | ⟨e0, e⟩ | ⟨e0, e⟩ <;> omega))
      have k2 : (a.st == 2) = false := beq_no (by omega)
      have k3 : (a.st == 3) = false := beq_no (by omega)
      have k5 : (a.st == 5) = false := beq_no (by omega)
      have k6 : (a.st == 6) = false := beq_no (by omega)
      have k4 : (a.st == 4) = false := beq_no h04
      go_wp2
      go_ret
      exact ⟨ret_bool VV.out.symm, XE.out _⟩
 ·have w1 : ((W.n : Int) == 0) = false := beq_no (by omega)
  have W0 : Hid (a.W ≠ []) := lh (fun e => w0 (HWL.out.1 e))
  clear w0
  have VV := lh (HV.out (fun hh => by rcases hh with ⟨e0, e⟩ | ⟨e0, e⟩ | ⟨e0, e⟩ | ⟨e0, e⟩ | ⟨e0, e⟩ <;> first | exact W0.out e.1 | exact h04 e0))
  by_cases s2 : a.st = 2
  ·have k2 : (a.st == 2) = true := beq_yes s2
   go_wp2
   go_ret
   exact ⟨ret_bool VV.out.symm, XE.out _⟩
  ·by_cases s3 : a.st = 3
   ·have k3 : (a.st == 3) = true := beq_yes s3
    have k2 : (a.st == 2) = false := beq_no (by omega)
    go_wp2
    go_ret
    exact ⟨ret_bool VV.out.symm, XE.out _⟩
   ·by_cases s5 : a.st = 5
    ·have k5 : (a.st == 5) = true := beq_yes s5
     have k2 : (a.st == 2) = false := beq_no (by omega)
     have k3 : (a.st == 3) = false := beq_no (by omega)
     go_wp2
     go_ret
     exact ⟨ret_bool VV.out.symm, XE.out _⟩
    ·by_cases s6 : a.st = 6
     ·have k6 : (a.st == 6) = true := beq_yes s6
      have k2 : (a.st == 2) = false := beq_no (by omega)
      have k3 : (a.st == 3) = false := beq_no (by omega)
      have k5 : (a.st == 5) = false := beq_no (by omega)
      go_wp2
      go_ret
      exact ⟨ret_bool VV.out.symm, XE.out _⟩
     ·have k2 : (a.st == 2) = false := beq_no (by omega)
      have k3 : (a.st == 3) = false := beq_no (by omega)
      have k5 : (a.st == 5) = false := beq_no (by omega)
      have k6 : (a.st == 6) = false := beq_no (by omega)
      have k4 : (a.st == 4) = false := beq_no h04
      go_wp2
      go_ret
      exact ⟨ret_bool VV.out.symm, XE.out _⟩
end Go.Proofs.YtijlccblabadaaaGreat.ax
end
section
namespace Go.Proofs.YtijlccblabadaaaGreat.ax
set_option maxRecDepth 100000
open Go.ChangeShapes Go.WideShapes Go.ChangeAt Go.RowKit Go.Proofs.YtijlccblabadaaaGreat.k Go.Proofs.YtijlccblabadaaaGreat.rr
open Go.Proofs.YtijlccblabadaaaGreat.ln (C RdC RdI iC iC_len iC_one cC cC_len cells_com OwC oc_row)
set_option linter.unusedVariables false
theorem moves_lims (a : Ax) (x : C) : (MoveP a x → (bounds a).lo ≤ x.tgt ∧ x.tgt ≤ (bounds a).hi ∧ True) ∧ (x.kind = 1 ∧ 1 ≤ x.spd ∧ x.spd ≤ a.l.V ∧ (bounds a).lo ≤ x.tgt ∧ x.tgt ≤ (bounds a).hi → MoveP a x) := ⟨fun h => ⟨h.2.2.2.1, h.2.2.2.2, trivial⟩, fun h => h⟩
set_option maxRecDepth 100000 in
set_option maxHeartbeats 4000000 in
theorem lined_moves_any (a : Ax) (hl : ln.RightL a.N a.W) (hv : 1 ≤ a.l.V ∧ a.l.V ≤ 1048576) (c : C) (hN : a.N = [c]) (h4 : a.st = 4) (S N W : Sl) {B : Nat} (w : World) (h : RdC w B N.A N.n N.c a.N) (h2 : RdC w B W.A W.n W.c a.W) (hB : B ≤ w.heap.size) :
  Calls Tryz.prog 39 #[axV a S N W] w fun e w' => e = .returned (.bool (linedB a)) ∧ Below w.heap.size w w' := by
 obtain ⟨x1, x2, x3⟩ := k.boxes1 (w := w) (c1 := axA a S N W) (t1 := 35) (Below.refl _ _)
 have X1 := lh x1
 have X2 := lh x2
 have HLIST := lh fun (W' : World) (hb : Below B w W') => ln.list_any a.N a.W (h.below hb) (h2.below hb) (Nat.le_trans hB hb.size) (by have := h.1; have := hl.2.1; omega) (by have := h2.1; have := hl.2.2.1; omega)
 have HLEN : Hid ((a.N ++ a.W).length ≤ 10) := lh (by have := hl.2.1; have := hl.2.2.1; rw [List.length_append]; omega)
 have h' := h
 rw [hN] at h'
 obtain ⟨hn, b, o, hA, hb, hc⟩ := row_one h'
 have hn0 : (N.n : Int) = 1 := by omega
 have hn1 : ((N.n : Int) == 0) = false := beq_no (by omega)
 have hn2 : (0 : Int) < (N.n : Int) := by omega
 have hn3 : 0 < N.n := by omega
 have hc2 := range_below hc (x2.mono hB) hb
 have HWL : Hid ((a.W = [] ↔ W.n = 0)) := lh ⟨fun e => by have := h2.1; rw [e] at this; exact this.symm, fun e => List.eq_nil_of_length_eq_zero (by rw [h2.1]; exact e)⟩
 have HC := lh hc2
 have HVY := lh fun h => moves_yes hN h4 h
 have HVN := lh fun (x : C) (q : Nat) h5 hx h => moves_no (x := x) (q := q) hN h4 h5 hx h
 have HY := lh fun (h : Lined1 a c) => lined_yes (lined_one hN h)
 have HV := lh fun (h : ¬ Lined1 a c) => lined_no1 hN h
 have HVV := lh hv
 have HAA := lh hA
 have HBB := lh hB
 have H4 := lh h4
 have k2 : (a.st == 2) = false := beq_no (by omega)
 have k3 : (a.st == 3) = false := beq_no (by omega)
 have k5 : (a.st == 5) = false := beq_no (by omega)
 have k6 : (a.st == 6) = false := beq_no (by omega)
 have k4 : (a.st == 4) = true := beq_yes h4
 clear x1 x2 h h' h2 hB hl hN hc hc2 hn hb hv hA h4
 go_enter Tryz.func39, Tryz.ntmps39
 go_upto_region 1 with fail
 generalize w.alloc (.cells (axA a S N W) 35) = w2 at X1 X2 x3 HC ⊢
 have ⟨q0, _⟩ := k.cell_of X1.out (i := 0) rfl
 have ⟨q1, _⟩ := k.cell_of X1.out (i := 1) rfl
 have ⟨q14, _⟩ := k.cell_of X1.out (i := 14) rfl
 have ⟨q15, _⟩ := k.cell_of X1.out (i := 15) rfl
 rw [HAA.out] at q14
 go_wp2
 go_quiet (fail)
 have Y1 := lh (X1.out.drawn nq)
 have Y2 := lh (below_drawn X2.out nq)
 have YC : Hid ((w2.drewN nq).rangeAt b o (cC c)) := lh HC.out
 have x5 : w.heap.size < (w2.drewN nq).heap.size := x3
 clear X1 X2 q0 q1 q14 q15 HC x3
 generalize w2.drewN nq = w5 at Y1 Y2 YC x5 ⊢
 have ⟨q0, _⟩ := k.cell_of Y1.out (i := 0) rfl
 have ⟨q14, _⟩ := k.cell_of Y1.out (i := 14) rfl
 rw [HAA.out] at q14
 obtain ⟨y0, y1, y2, y3, y4, y5, y6⟩ := cells_com YC.out
 clear YC
 have XE := lh fun (ob : Obj) => Y2.out.alloc Y2.out.size ob
 by_cases h5 : c.kind = 5
 ·have i5 : (c.kind == 5) = true := beq_yes h5
  by_cases w0 : W.n = 0
  ·have w1 : (W.n : Int) = 0 := by omega
   have VV := lh (HY.out (.inr (.inr (.inr (.inr ⟨H4.out, .inl ⟨h5, HWL.out.2 w0⟩⟩)))))
   clear w0 Y1
   go_wp2
   go_ret
   exact ⟨ret_bool VV.out.symm, XE.out _⟩
  ·have w1 : ((W.n : Int) == 0) = false := beq_no (by omega)
   have VV := lh (HV.out (fun hh => by
    have h4 := H4.out
    rcases hh with ⟨e0, e⟩ | ⟨e0, e⟩ | ⟨e0, e⟩ | ⟨e0, e⟩ | ⟨e0, ⟨_, e⟩ | ⟨e, _⟩⟩
    ·omega
    ·omega
    ·omega
    ·omega
    ·exact w0 (HWL.out.1 e)
    ·have := e.1; omega))
   clear w0 Y1
   go_wp2
   go_ret
   exact ⟨ret_bool VV.out.symm, XE.out _⟩
 ·have i5 : (c.kind == 5) = false := beq_no h5
  have H5 := lh h5
  clear h5
  go_upto_region 17 with fail
  have Z1 := lh (Y1.out.below ((Below.refl w5.heap.size w5).alloc (Nat.le_refl _) (.cells #[.int .i64 c.id, .int .i64 c.kind, .int .i64 c.tgt, .int .i64 c.spd, .int .i64 c.mode, .int .i64 c.num, .int .i64 c.den] 62)) x5)
  have Z2 := lh (XE.out (.cells #[.int .i64 c.id, .int .i64 c.kind, .int .i64 c.tgt, .int .i64 c.spd, .int .i64 c.mode, .int .i64 c.num, .int .i64 c.den] 62))
  have x6 : w.heap.size < (w5.alloc (.cells #[.int .i64 c.id, .int .i64 c.kind, .int .i64 c.tgt, .int .i64 c.spd, .int .i64 c.mode, .int .i64 c.num, .int .i64 c.den] 62)).heap.size := by simp; omega
  clear Y1 Y2 XE q0 q14 y0 y1 y2 y3 y4 y5 y6
  generalize w5.alloc (.cells #[.int .i64 c.id, .int .i64 c.kind, .int .i64 c.tgt, .int .i64 c.spd, .int .i64 c.mode, .int .i64 c.num, .int .i64 c.den] 62) = w6 at Z1 Z2 x6 ⊢
  go_step
  refine wpList_load_mid rfl 35 (.tmp 1) rfl w.heap.size 0 rfl (axC a S N W) _ Z1.out.range rfl rfl (by kernel_rfl) ?_
  go_wp2_with (go_at_call 18; fail)
  refine (refbounds_any a S N W _).mono ?_
  rintro e w7 ⟨rfl, hb⟩
  have V1 := lh (Z1.out.below hb x6)
  have V2 := lh (Z2.out.trans (hb.mono Z2.out.size))
  have x7 : w.heap.size < w7.heap.size := Nat.lt_of_lt_of_le x6 hb.size
  clear hb Z1 Z2
  have HD := lh (moves_lims a)
  generalize bounds a = bd at HD ⊢
  go_upto_region 18 with fail
  have b8 := k.Box.new w7 (lmA bd) 23
  have h8 := (Below.refl w7.heap.size w7).alloc (Nat.le_refl _) (.cells (lmA bd) 23)
  have x8 : w7.heap.size < (w7.alloc (.cells (lmA bd) 23)).heap.size := by simp
  generalize w7.alloc (.cells (lmA bd) 23) = w8 at b8 h8 x8 ⊢
  have U1 := V1.out.below h8 x7
  have U2 := lh (V2.out.trans (h8.mono V2.out.size))
  have B8 := lh b8
  have ⟨q14, _⟩ := k.cell_of U1 (i := 14) rfl
  have ⟨q15, _⟩ := k.cell_of U1 (i := 15) rfl
  clear U1 V1 V2 b8 h8
  go_wp2_with (go_at_call 62; fail)
  refine (HLIST.out _ (U2.out.mono HBB.out)).mono ?_
  rintro e w9 ⟨v9, rfl, ho, hb9⟩
  have T2 := lh (U2.out.trans (hb9.mono U2.out.size))
  have T8 := lh (B8.out.below hb9 x8)
  have ⟨t3, _⟩ := k.cell_of T8.out (i := 3) rfl
  have ⟨t4, _⟩ := k.cell_of T8.out (i := 4) rfl
  obtain ⟨A9, n9, c9, rfl, hr9⟩ := oc_row ho
  have R9 := lh hr9
  have hlen := hr9.len_le
  have HR9 := lh hr9.1
  clear hb9 ho hr9 U2 B8 HLIST q14 q15 T8
  generalize a.N ++ a.W = LL at R9 HR9 HVY HVN HLEN
  go_wp2
  go_loopw [9] (fun i wr => ∃ j : Nat, j ≤ n9 ∧ i = .int .i64 j ∧ (∀ q x, q < j → LL[q]? = some x → Mv a q x) ∧ ∃ q, wr = w9.drewN q) (fun i _ => n9 - (intOf i).toNat)
  case atStart => exact ⟨0, Nat.zero_le _, rfl, fun q x hq => absurd hq (by omega), 0, rfl⟩
  case round =>
   obtain ⟨j, hj, rfl, hT, q, rfl⟩ := hrel
   have HT := lh hT
   clear hT
   by_cases hlt : j < n9
   ·obtain ⟨b', o', x, rfl, hb', hx, hr⟩ := R9.out.at hlt
    obtain ⟨y0, y1, y2, y3, y4, y5, y6⟩ := cells_com hr
    have hj0 : (0 : Int) ≤ (j : Int) := by omega
    have hj1 : (j : Int) < (n9 : Int) := by omega
    have HX := lh hx
    have HNO := lh fun h => HVN.out x j H5.out hx h
    clear hr hx hb'
    by_cases z1 : x.kind = 1
    ·have i1 : (x.kind == 1) = true := beq_yes z1
     have i1b : (x.kind != 1) = false := by rw [bne, i1]; rfl
     by_cases z2 : x.spd < 1
     ·have VV := lh (HNO.out fun h => by have := h.1.2.1; omega)
      clear z1
      go_wp2
      go_quiet (fail)
      go_wp2
      go_ret
      exact ⟨ret_bool VV.out.symm, below_drawn (below_drawn T2.out _) _⟩
     ·have i2 : decide (x.spd < 1) = false := decide_eq_false z2
      by_cases z3 : a.l.V < x.spd
      ·have VV := lh (HNO.out fun h => by have := h.1.2.2.1; omega)
       clear z1
       go_wp2
       go_quiet (fail)
       go_wp2
       go_ret
       exact ⟨ret_bool VV.out.symm, below_drawn (below_drawn T2.out _) _⟩
      ·have i3 : decide (a.l.V < x.spd) = false := decide_eq_false z3
       by_cases z4 : x.tgt < bd.lo
       ·have VV := lh (HNO.out fun h => by have := ((HD.out x).1 h.1).1; omega)
        clear z1
        go_wp2
        go_quiet (fail)
        go_wp2
        go_ret
        exact ⟨ret_bool VV.out.symm, below_drawn (below_drawn T2.out _) _⟩
       ·have i4 : decide (x.tgt < bd.lo) = false := decide_eq_false z4
        by_cases z5 : bd.hi < x.tgt
        ·have VV := lh (HNO.out fun h => by have := ((HD.out x).1 h.1).2.1; omega)
         clear z1
         go_wp2
         go_quiet (fail)
         go_wp2
         go_ret
         exact ⟨ret_bool VV.out.symm, below_drawn (below_drawn T2.out _) _⟩
        ·have i5' : decide (bd.hi < x.tgt) = false := decide_eq_false z5
         have HM := lh ((HD.out x).2 ⟨z1, by omega, by omega, by omega, by omega⟩)
         by_cases z6 : 0 < j
         ·have i6 : (0 : Int) < (j : Int) := by omega
          by_cases z7 : x.mode < 1
          ·have VV := lh (HNO.out fun h => by have := h.2 z6; omega)
           clear z1
           go_wp2
           go_quiet (fail)
           go_wp2
           go_ret
           exact ⟨ret_bool VV.out.symm, below_drawn (below_drawn T2.out _) _⟩
          ·have i7 : decide (x.mode < 1) = false := decide_eq_false z7
           have HN := lh (show Mv a j x from ⟨HM.out, fun _ => by omega⟩)
           clear z1
           go_wp2
           go_quiet (fail)
           go_wp2
           go_roundw
           case rel =>
            refine ⟨j + 1, by omega, by go_num, fun p y hp hy => ?_, q + nq, (by first | rfl | exact World.drewN_drewN _ _ _)⟩
            by_cases e : p = j
            ·subst e
             have := ln.rows_same hy HX.out
             subst this
             exact HN.out
            ·exact HT.out p y (by omega) hy
           case measure => simp [intOf]; omega
         ·have e0 : j = 0 := by omega
          subst e0
          have HN := lh (show Mv a 0 x from ⟨HM.out, fun h => absurd h (by omega)⟩)
          clear z1
          go_wp2
          go_quiet (fail)
          go_wp2
          go_roundw
          case rel =>
           refine ⟨1, by omega, by go_num, fun p y hp hy => ?_, q + nq, (by first | rfl | exact World.drewN_drewN _ _ _)⟩
           have e : p = 0 := by omega
           subst e
           have := ln.rows_same hy HX.out
           subst this
           exact HN.out
          case measure => simp [intOf]; omega
    ·have i1 : (x.kind == 1) = false := beq_no z1
     have i1b : (x.kind != 1) = true := bne_iff_ne.2 z1
     have VV := lh (HNO.out fun h => z1 h.1.1)
     go_wp2
     go_quiet (fail)
     go_wp2
     go_ret
     exact ⟨ret_bool VV.out.symm, below_drawn (below_drawn T2.out _) _⟩
   ·have hjl : j = n9 := by omega
    have VV := lh (HVY.out fun p y hy => HT.out p y (by rw [hjl, ← HR9.out]; exact (List.getElem?_eq_some_iff.1 hy).1) hy)
    subst hjl
    go_wp2
    go_ret
    exact ⟨ret_bool VV.out.symm, below_drawn T2.out _⟩
end Go.Proofs.YtijlccblabadaaaGreat.ax
end
