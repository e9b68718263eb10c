/- An axis as it lies in memory, and what servitorref15's full, Bounds and Short answer. No condition beyond what each line says. Whatever comes, a right axis stays right: each of a cycle's parts keeps it so. No condition beyond what each line says. A right axis behind a cycle is right, what its drive is told moves by no more than it may, and its state goes by one edge or stays. No condition beyond what each line says. What a right axis' drive is told moves by no more than it may; its state goes by one edge or stays. No condition beyond what each line says. An axis in ErrorStop, an axis to which nothing comes, and an axis whose place is moved. No condition beyond what each line says. A move that is taken by an axis that stands still lands at its place, if nothing else comes. No condition beyond what each line says. An axis' numbers, and what comes, have room; so it is behind a cycle, too. No condition beyond what each line says. The axis of the laws' fixed answer: what two cycles make of it. No condition. What is said of axis' answers. No condition beyond what each line says. An axis that is stored into a variable, new or old, and that is loaded whole. No condition beyond what each line says. A cycle as it lies in memory: an axis, what comes, the reports by now, and two marks; what a method of it may change. No condition beyond what each line says. -/
import Derived.Test.YtijlccblabadaaaGreatU01
section
namespace Go.Proofs.YtijlccblabadaaaGreat.ax
set_option maxRecDepth 100000
open Go.ChangeShapes Go.WideShapes Go.ChangeAt Go.RowKit Go.Proofs.YtijlccblabadaaaGreat.k Go.Proofs.YtijlccblabadaaaGreat.rr
open Go.Proofs.YtijlccblabadaaaGreat.ln (C RdC RdI iC iC_len iC_one)
set_option linter.unusedVariables false
structure Sl where
 A : Option Addr
 n : Nat
 c : Nat
abbrev Sl.v (s : Sl) : Value := .slice s.A s.n s.c
abbrev axC (a : Ax) (S N W : Sl) : List Value := [.int .i64 a.st, .int .i64 a.l.V, .int .i64 a.l.A, .int .i64 a.l.D, .int .i64 a.l.lo, .int .i64 a.l.hi, .int .i64 a.win, .int .i64 a.homeAt, .int .i64 a.fast, .int .i64 a.creep, .int .i64 a.p, .int .i64 a.v, .slice S.A S.n S.c, .int .i64 a.off, .slice N.A N.n N.c, .slice W.A W.n W.c, .bool a.homed, .int .i64 a.h.ph, .int .i64 a.h.f, .int .i64 a.h.c, .bool a.h.tu, .int .i64 a.ov, .int .i64 a.start, .int .i64 a.master, .int .i64 a.cause, .bool a.instep]
abbrev axA (a : Ax) (S N W : Sl) : Array Value := #[.int .i64 a.st, .int .i64 a.l.V, .int .i64 a.l.A, .int .i64 a.l.D, .int .i64 a.l.lo, .int .i64 a.l.hi, .int .i64 a.win, .int .i64 a.homeAt, .int .i64 a.fast, .int .i64 a.creep, .int .i64 a.p, .int .i64 a.v, .slice S.A S.n S.c, .int .i64 a.off, .slice N.A N.n N.c, .slice W.A W.n W.c, .bool a.homed, .int .i64 a.h.ph, .int .i64 a.h.f, .int .i64 a.h.c, .bool a.h.tu, .int .i64 a.ov, .int .i64 a.start, .int .i64 a.master, .int .i64 a.cause, .bool a.instep]
abbrev axV (a : Ax) (S N W : Sl) : Value := .agg #[.int .i64 a.st, .int .i64 a.l.V, .int .i64 a.l.A, .int .i64 a.l.D, .int .i64 a.l.lo, .int .i64 a.l.hi, .int .i64 a.win, .int .i64 a.homeAt, .int .i64 a.fast, .int .i64 a.creep, .int .i64 a.p, .int .i64 a.v, .slice S.A S.n S.c, .int .i64 a.off, .slice N.A N.n N.c, .slice W.A W.n W.c, .bool a.homed, .int .i64 a.h.ph, .int .i64 a.h.f, .int .i64 a.h.c, .bool a.h.tu, .int .i64 a.ov, .int .i64 a.start, .int .i64 a.master, .int .i64 a.cause, .bool a.instep]
abbrev lmV (l : Lm) : Value := .agg #[.int .i64 l.V, .int .i64 l.A, .int .i64 l.D, .int .i64 l.lo, .int .i64 l.hi]
abbrev lmA (l : Lm) : Array Value := #[.int .i64 l.V, .int .i64 l.A, .int .i64 l.D, .int .i64 l.lo, .int .i64 l.hi]
abbrev lmC (l : Lm) : List Value := [.int .i64 l.V, .int .i64 l.A, .int .i64 l.D, .int .i64 l.lo, .int .i64 l.hi]
abbrev inV (i : In) (L : Sl) : Value := .agg #[.bool i.power, .bool i.op, .int .i64 i.actual, .int .i64 i.cause, .bool i.plus, .bool i.minus, .bool i.home, .bool i.reset, .bool i.release, .int .i64 i.ov, .int .i64 i.master, .slice L.A L.n L.c]
structure RdA (w : World) (B : Nat) (a : Ax) (S N W : Sl) : Prop where
 S : RdI w B S.A S.n S.c a.sm
 N : RdC w B N.A N.n N.c a.N
 W : RdC w B W.A W.n W.c a.W
theorem RdA.below {w w' : World} {B : Nat} {a : Ax} {S N W : Sl} (h : RdA w B a S N W) (hb : Below B w w') : RdA w' B a S N W := ⟨h.S.below hb, h.N.below hb, h.W.below hb⟩
theorem RdA.more {w : World} {B B' : Nat} {a : Ax} {S N W : Sl} (h : RdA w B a S N W) (hB : B ≤ B') : RdA w B' a S N W := ⟨h.S.more hB, h.N.more hB, h.W.more hB⟩
theorem i64s_slice : Tryz.prog.underlying 26 = some (.slice 2) := by kernel_rfl
theorem i64_info : (Tryz.prog.info? 2).map (fun i => (i.zero, i.size, i.bytes)) = some (some (.int .i64 0), 1, 8) := by kernel_rfl
abbrev OwL := Ow iC 1 2
theorem ol_row {w : World} {base : Nat} {A : Option Addr} {n c : Nat} {l : List Int} (h : OwL w base (.slice A n c) l) : RdI w w.heap.size A n c l := by
 obtain ⟨A', c', e, hr⟩ := h.form iC_len
 injection e with e1 e2 e3
 subst e1 e2 e3
 exact hr
theorem ol_form {w : World} {base : Nat} {v : Value} {l : List Int} (h : OwL w base v l) : ∃ A n c, v = .slice A n c := by
 obtain ⟨A', c', e, hr⟩ := h.form iC_len
 exact ⟨_, _, _, e⟩
theorem ol_set {w : World} {base g i : Nat} {u : Value} {l : List Int} (h : OwL w base u l) (hg : g < base) (x : Value) : OwL (w.setCell ⟨g, i, none⟩ x) base u l :=
 h.kept (row := some g) ⟨rfl, rfl, rfl, by simp, fun k hk hne2 => Below.heap_setCell w _ x k (fun e => hne2 (by rw [e]))⟩ (by
  cases hu : u.ownBlock with
  | none => exact .inl rfl
  | some b => exact .inr fun e => by injection e with e; have := (h.lt b hu).1; omega)
theorem full_snoc (j : Nat) (p : Int) : List.replicate (j + 1) p = List.replicate j p ++ [p] := List.replicate_succ'
set_option maxRecDepth 100000 in
set_option maxHeartbeats 2000000 in
theorem reffull_any (m : Int) (hm0 : 0 ≤ m) (hm1 : m ≤ 1000) (p : Int) (w : World) :
  Calls Tryz.prog 28 #[.int .i64 m, .int .i64 p] w fun e w' => ∃ A n c, e = .returned (.agg #[.slice A n c]) ∧ OwL w' w.heap.size (.slice A n c) (full m p) ∧ Below w.heap.size w w' := by
 go_enter Tryz.func28, Tryz.ntmps28
 go_upto_region 2 with fail
 obtain ⟨x1, x2, x3, x4⟩ := k.boxes2 (w := w) (c1 := #[.slice none 0 0]) (t1 := 28) (c2 := #[.slice none 0 0]) (t2 := 28) (Below.refl _ _)
 generalize (w.alloc (.cells #[.slice none 0 0] 28)).alloc (.cells #[.slice none 0 0] 28) = w2 at x1 x2 x3 x4 ⊢
 have X1 := lh x1
 have X2 := lh x2
 have X3 := lh x3
 clear x1 x2 x3
 go_wp2
 go_loopw [6] (fun i wr => ∃ (j : Nat) (A : Option Addr) (n c : Nat), (j : Int) ≤ m ∧ i = .int .i64 j ∧ k.Box wr w.heap.size 0 [.slice none 0 0] ∧ k.Box wr (w.heap.size + 1) 0 [.slice A n c] ∧ OwL wr (w.heap.size + 2) (.slice A n c) (List.replicate j p) ∧ Below w.heap.size w wr ∧ w.heap.size + 1 < wr.heap.size) (fun i _ => m.toNat - (intOf i).toNat)
 case atStart => exact ⟨0, none, 0, 0, hm0, rfl, X1.out, X2.out, Ow.nil _ _ _ _ _, X3.out, x4⟩
 case round =>
  clear X1 X2 X3 x4
  obtain ⟨j, A, n, c, hj, rfl, hz, hx, ho, hb, hs⟩ := hrel
  have HZ := lh hz
  have HX := lh hx
  have HO := lh ho
  have HB := lh hb
  have ⟨b0, bf0⟩ := k.cell_of hx (i := 0) rfl
  have ⟨z0, zf0⟩ := k.cell_of hz (i := 0) rfl
  clear hz hx ho hb
  by_cases hlt : (j : Int) < m
  ·have HM : Hid ((List.replicate j p).length ≤ 1000) := lh (by rw [List.length_replicate]; omega)
   have hw1 := (Below.refl wr.heap.size wr).alloc (Nat.le_refl _) (.cells #[.int .i64 p] 2)
   have HO1 := lh (HO.out.under hw1)
   have HS1 : Hid (w.heap.size + 2 ≤ (wr.alloc (.cells #[.int .i64 p] 2)).heap.size) := lh (by simp; omega)
   have HW1 := lh hw1
   have d0 := (HW1.out.cell (p := ⟨w.heap.size + 1, 0, none⟩) hs).trans b0
   have df0 := (HW1.out.frozen (p := ⟨w.heap.size + 1, 0, none⟩) hs).trans bf0
   clear hw1
   go_wp2_with (at_builtin; refine wpList_append_row iC_len (by omega) iC_one i64s_slice i64_info rfl (by omega) _ rfl (.tmp 13) (.tmp 15) rfl (w.heap.size + 2) (.slice A n c) (List.replicate j p) rfl HO1.out (wr.heap.size + 1) (some ⟨wr.heap.size, 0, none⟩) 1 1 [p] rfl (one_row wr _ p _ rfl) (by have := HM.out; simp; omega) HS1.out ?_; intro v1 w1 hown hg hat; have O1 := lh hown; have B1 := lh (HO1.out.lays (HW1.out.mono (show w.heap.size + 2 ≤ wr.heap.size from hs)) (Nat.le_refl _) hs hg); clear hown hg hat d0 df0; obtain ⟨A', n', c', rfl⟩ := ol_form O1.out; have ⟨d0, df0⟩ := k.cell_of (HX.out.below B1.out (Nat.lt_succ_self _)) (i := 0) rfl)
   go_roundw
   case rel => exact ⟨j + 1, _, _, _, by omega, by go_num, k.Box_aside (show w.heap.size + 1 ≠ w.heap.size by omega) _ (HZ.out.below B1.out (by omega)), k.Box.put (HX.out.below B1.out (Nat.lt_succ_self _)) 0 (by simp) _, ol_set (by rw [full_snoc]; exact O1.out) (Nat.lt_succ_self _) _, (HB.out.trans (B1.out.mono (by omega))).setCell (by show w.heap.size ≤ w.heap.size + 1; omega) _, by have := B1.out.size; simp; omega⟩
   case measure => simp [intOf]; omega
  ·have hjm : (j : Int) = m := by omega
   have HE : Hid (full m p = List.replicate j p) := lh (by unfold full; rw [← hjm]; rfl)
   go_wp2
   have V := k.Box.put HZ.out 0 (by simp) (.slice A n c)
   refine bodyPost_ret (k.results_cell rfl rfl (run_loadVar_mid _ w.heap.size 0 28 _ _ V.range rfl rfl (by kernel_rfl))) rfl ⟨A, n, c, rfl, (ol_set (i := 0) (by rw [HE.out]; exact HO.out) (by omega) _).base (by omega), HB.out.setCell (Nat.le_refl _) _⟩
set_option maxRecDepth 100000 in
set_option maxHeartbeats 2000000 in
theorem refbounds_any (a : Ax) (S N W : Sl) (w : World) :
  Calls Tryz.prog 18 #[axV a S N W] w fun e w' => e = .returned (lmV (bounds a)) ∧ Below w.heap.size w w' := by
 obtain ⟨x1, x2, x3, x4⟩ := k.boxes2 (w := w) (c1 := axA a S N W) (t1 := 35) (c2 := #[.int .i64 0, .int .i64 0, .int .i64 0, .int .i64 0, .int .i64 0]) (t2 := 23) (Below.refl _ _)
 have X1 := lh x1
 have X2 := lh x2
 have X3 := lh x3
 clear x1 x2 x3
 have HB : Hid ((a.homed = true → bounds a = a.l) ∧ (a.homed = false → bounds a = ⟨a.l.V, a.l.A, a.l.D, -1099511627776, 1099511627776⟩)) := lh ⟨fun h => by unfold bounds; rw [h]; rfl, fun h => by unfold bounds; rw [h]; rfl⟩
 go_enter Tryz.func18, Tryz.ntmps18
 go_upto_region 1 with fail
 generalize (w.alloc (.cells (axA a S N W) 35)).alloc (.cells #[.int .i64 0, .int .i64 0, .int .i64 0, .int .i64 0, .int .i64 0] 23) = w2 at X1 X2 X3 x4 ⊢
 have ⟨q1, _⟩ := k.cell_of X1.out (i := 1) rfl
 have ⟨q2, _⟩ := k.cell_of X1.out (i := 2) rfl
 have ⟨q3, _⟩ := k.cell_of X1.out (i := 3) rfl
 have ⟨q4, _⟩ := k.cell_of X1.out (i := 4) rfl
 have ⟨q5, _⟩ := k.cell_of X1.out (i := 5) rfl
 have ⟨q16, _⟩ := k.cell_of X1.out (i := 16) rfl
 have ⟨r0, f0, r1, f1, r2, f2, r3, f3, r4, f4, _⟩ := X2.out
 have P := lh fun l : Lm => k.Box.puts (us := lmC l) X2.out rfl
 clear X1
 cases hh : a.homed
 ·have HL := lh (HB.out.2 hh)
  rw [hh] at q16
  obtain ⟨P1, _, P3⟩ := P.out ⟨a.l.V, a.l.A, a.l.D, -1099511627776, 1099511627776⟩
  have Q1 := lh P1
  have Q3 := lh (X3.out.trans (P3 _ (show w.heap.size ≤ w.heap.size + 1 by omega)))
  clear P1 P3 P X2 X3 HB
  go_wp2
  refine bodyPost_ret (k.results_cell rfl rfl (run_loadVar_mid (k.puts w2 (w.heap.size + 1) 0 (lmC ⟨a.l.V, a.l.A, a.l.D, -1099511627776, 1099511627776⟩)) (w.heap.size + 1) 0 23 _ _ Q1.out.range rfl rfl (by kernel_rfl))) rfl ⟨by rw [HL.out], Q3.out⟩
 ·have HL := lh (HB.out.1 hh)
  rw [hh] at q16
  obtain ⟨P1, _, P3⟩ := P.out a.l
  have Q1 := lh P1
  have Q3 := lh (X3.out.trans (P3 _ (show w.heap.size ≤ w.heap.size + 1 by omega)))
  clear P1 P3 P X2 X3 HB
  go_wp2
  refine bodyPost_ret (k.results_cell rfl rfl (run_loadVar_mid (k.puts w2 (w.heap.size + 1) 0 (lmC a.l)) (w.heap.size + 1) 0 23 _ _ Q1.out.range rfl rfl (by kernel_rfl))) rfl ⟨by rw [HL.out], Q3.out⟩
def shortP (a : Ax) (n m s q : Nat) : Bool := decide (n ≤ 10 ∧ m ≤ 10 ∧ s ≤ 40 ∧ q ≤ 20)
set_option maxRecDepth 100000 in
set_option maxHeartbeats 2000000 in
theorem refshort_any (a : Ax) (S N W : Sl) (i : In) (L : Sl) (w : World) :
  Calls Tryz.prog 15 #[axV a S N W, inV i L] w fun e w' => e = .returned (.bool (shortP a N.n W.n S.n L.n)) ∧ Below w.heap.size w w' := by
 obtain ⟨x1, x2, x3, x4⟩ := k.boxes2 (w := w) (c1 := axA a S N W) (t1 := 35) (c2 := #[.bool i.power, .bool i.op, .int .i64 i.actual, .int .i64 i.cause, .bool i.plus, .bool i.minus, .bool i.home, .bool i.reset, .bool i.release, .int .i64 i.ov, .int .i64 i.master, .slice L.A L.n L.c]) (t2 := 46) (Below.refl _ _)
 have X1 := lh x1
 have X2 := lh x2
 have X3 := lh x3
 clear x1 x2 x3
 go_enter Tryz.func15, Tryz.ntmps15
 go_upto_region 1 with fail
 generalize (w.alloc (.cells (axA a S N W) 35)).alloc (.cells #[.bool i.power, .bool i.op, .int .i64 i.actual, .int .i64 i.cause, .bool i.plus, .bool i.minus, .bool i.home, .bool i.reset, .bool i.release, .int .i64 i.ov, .int .i64 i.master, .slice L.A L.n L.c] 46) = w2 at X1 X2 X3 x4 ⊢
 have ⟨q1, _⟩ := k.cell_of X1.out (i := 12) rfl
 have ⟨q2, _⟩ := k.cell_of X1.out (i := 14) rfl
 have ⟨q3, _⟩ := k.cell_of X1.out (i := 15) rfl
 have ⟨q4, _⟩ := k.cell_of X2.out (i := 11) rfl
 clear X1 X2
 by_cases h1 : N.n ≤ 10
 ·have i1 : (N.n : Int) ≤ 10 := by omega
  by_cases h2 : W.n ≤ 10
  ·have i2 : (W.n : Int) ≤ 10 := by omega
   by_cases h3 : S.n ≤ 40
   ·have i3 : (S.n : Int) ≤ 40 := by omega
    by_cases h4 : L.n ≤ 20
    ·have i4 : (L.n : Int) ≤ 20 := by omega
     have HV : Hid (shortP a N.n W.n S.n L.n = true) := lh (decide_eq_true ⟨h1, h2, h3, h4⟩)
     clear h1 h2 h3 h4
     go_wp2
     go_ret
     exact ⟨ret_bool HV.out.symm, X3.out⟩
    ·have i4 : decide ((L.n : Int) ≤ 20) = false := decide_eq_false (by omega)
     have i5 : (20 : Int) < (L.n : Int) := by omega
     have HV : Hid (shortP a N.n W.n S.n L.n = false) := lh (decide_eq_false fun h => h4 h.2.2.2)
     clear h1 h2 h3 h4
     go_wp2
     go_ret
     exact ⟨ret_bool HV.out.symm, X3.out⟩
   ·have i3 : decide ((S.n : Int) ≤ 40) = false := decide_eq_false (by omega)
    have i5 : (40 : Int) < (S.n : Int) := by omega
    have HV : Hid (shortP a N.n W.n S.n L.n = false) := lh (decide_eq_false fun h => h3 h.2.2.1)
    clear h1 h2 h3
    go_wp2
    go_ret
    exact ⟨ret_bool HV.out.symm, X3.out⟩
  ·have i3 : decide ((W.n : Int) ≤ 10) = false := decide_eq_false (by omega)
   have i5 : (10 : Int) < (W.n : Int) := by omega
   have HV : Hid (shortP a N.n W.n S.n L.n = false) := lh (decide_eq_false fun h => h2 h.2.1)
   clear h1 h2
   go_wp2
   go_ret
   exact ⟨ret_bool HV.out.symm, X3.out⟩
 ·have i3 : decide ((N.n : Int) ≤ 10) = false := decide_eq_false (by omega)
  have i5 : (10 : Int) < (N.n : Int) := by omega
  have HV : Hid (shortP a N.n W.n S.n L.n = false) := lh (decide_eq_false fun h => h1 h.1)
  clear h1
  go_wp2
  go_ret
  exact ⟨ret_bool HV.out.symm, X3.out⟩
end Go.Proofs.YtijlccblabadaaaGreat.ax
end
section
namespace Go.Proofs.YtijlccblabadaaaGreat.ax
open Go.Proofs.YtijlccblabadaaaGreat.ln (C)
open Go.Proofs.YtijlccblabadaaaGreat.hm (H)
open Go.Proofs.YtijlccblabadaaaGreat.ed (nxS nxB)
set_option linter.unusedVariables false
theorem nx11 {s : Int} (h0 : 0 ≤ s) (h7 : s ≤ 7) : nxS s 11 = 7 := by
 rcases ed.eight_of s h0 h7 with rfl | rfl | rfl | rfl | rfl | rfl | rfl | rfl <;> rfl
theorem nx2 {s : Int} (h0 : 0 ≤ s) (h7 : s ≤ 7) : nxS s 2 = 0 := by
 rcases ed.eight_of s h0 h7 with rfl | rfl | rfl | rfl | rfl | rfl | rfl | rfl <;> rfl
theorem takes_of {s : Int} (h : takesP s) : s = 1 ∨ s = 4 ∨ s = 5 ∨ s = 6 := by unfold takesP at h; omega
theorem nx5 {s : Int} (h : takesP s) : nxS s 5 = 4 := by rcases takes_of h with rfl | rfl | rfl | rfl <;> rfl
theorem nx6 {s : Int} (h : takesP s) : nxS s 6 = 5 := by rcases takes_of h with rfl | rfl | rfl | rfl <;> rfl
theorem nx7 {s : Int} (h : takesP s) : nxS s 7 = 6 := by rcases takes_of h with rfl | rfl | rfl | rfl <;> rfl
theorem nx8 {s : Int} (h : takesP s ∨ s = 2) : nxS s 8 = 3 := by
 rcases h with h | rfl
 ·rcases takes_of h with rfl | rfl | rfl | rfl <;> rfl
 ·rfl
theorem full_len {m : Int} (h : 1 ≤ m) (p : Int) : ((full m p).length : Int) = m := by unfold full; rw [List.length_replicate]; omega
theorem full_rows {m p x : Int} (h : x ∈ full m p) : x = p := List.eq_of_mem_replicate h
theorem full_head {m p x : Int} (h : (full m p).head? = some x) : x = p := full_rows (List.mem_of_head? h)
theorem near_full (p : Int) : ∀ n : Nat, Near (List.replicate n p)
 | 0 => trivial
 | 1 => trivial
 | n + 2 => ⟨by omega, by omega, near_full p (n + 1)⟩
theorem near_drop : ∀ {L : List Int}, Near L → Near L.dropLast
 | [], _ => trivial
 | [_], _ => trivial
 | [_, _], _ => trivial
 | x :: y :: z :: L, h => ⟨h.1, h.2.1, near_drop (L := y :: z :: L) h.2.2⟩
theorem near_push {q p : Int} (h1 : q - p ≤ 1048576) (h2 : p - q ≤ 1048576) {L : List Int} (hp : ∀ x, L.head? = some x → x = p) (h : Near L) : Near (q :: L.dropLast) := by
 match L, hp, h with
 | [], _, _ => trivial
 | [_], _, _ => trivial
 | x :: y :: T, hp, h =>
  have e := hp x rfl
  subst e
  exact ⟨h1, h2, near_drop h⟩
theorem bounds_right {a : Ax} (h : gn.RightL a.l) : gn.RightL (bounds a) := by
 unfold bounds
 split
 ·exact h
 ·obtain ⟨h1, h2, h3, h4, h5, h6, _⟩ := h
  refine ⟨h1, h2, h3, h4, h5, h6, ?_, ?_, ?_⟩ <;> (show (_ : Int) ≤ _; dsimp only; omega)
theorem bounds_D (a : Ax) : (bounds a).D = a.l.D ∧ (bounds a).V = a.l.V ∧ (bounds a).A = a.l.A := by unfold bounds; split <;> exact ⟨rfl, rfl, rfl⟩
theorem bounds_in {a : Ax} (h : gn.RightL a.l) : -1099511627776 ≤ (bounds a).lo ∧ (bounds a).hi ≤ 1099511627776 ∧ (bounds a).lo ≤ (bounds a).hi := (bounds_right h).2.2.2.2.2.2
theorem stand_safe {l : Lm} (hr : gn.RightL l) {p : Int} (h1 : l.lo ≤ p) (h2 : p ≤ l.hi) : gn.SafeP l p 0 := by
 refine ⟨h1, h2, by omega, by omega, ?_⟩
 unfold gn.wayOK
 rw [if_neg (by omega), gn.slow_zero hr.2.2.2.2.1]
 omega
theorem wide_safe {a : Ax} (hr : gn.RightL a.l) {p v : Int} (h : gn.SafeP (bounds a) p v) : gn.SafeP ⟨a.l.V, a.l.A, a.l.D, -1099511627776, 1099511627776⟩ p v := by
 obtain ⟨b1, b2, _⟩ := bounds_in hr
 obtain ⟨h1, h2, h3, h4, h5⟩ := h
 refine ⟨by show -1099511627776 ≤ p; omega, by show p ≤ 1099511627776; omega, h3, h4, ?_⟩
 unfold gn.wayOK at *
 rw [(bounds_D a).1] at h5
 by_cases h0 : v < 0
 ·rw [if_pos h0] at h5 ⊢; show b.slow (-v) 0 a.l.D ≤ p - -1099511627776; omega
 ·rw [if_neg h0] at h5 ⊢; show b.slow v 0 a.l.D ≤ 1099511627776 - p; omega
theorem right_none : ln.RightL [] [] := by decide
theorem right_one {c : C} (h : ln.OkC c) : ln.RightL [c] [] := ⟨by simpa using h, by simp, by simp, .inl rfl⟩
theorem right_tail {N W : List C} (h : ln.RightL N W) (hn : N ≠ []) : ln.RightL (W.take 1) (W.drop 1) := by
 obtain ⟨h1, h2, h3, h4⟩ := h
 refine ⟨fun c hc => h1 c (List.mem_append_right _ (by rwa [List.take_append_drop] at hc)), by rw [List.length_take]; omega, by rw [List.length_drop]; omega, ?_⟩
 cases W with
 | nil => exact .inr rfl
 | cons x W => exact .inl rfl
theorem one_of {N W : List C} (h : ln.RightL N W) {c : C} {T : List C} (hn : N = c :: T) : T = [] := by
 subst hn
 have := h.2.1
 rw [List.length_cons] at this
 exact List.eq_nil_of_length_eq_zero (by omega)
def Lined1 (a : Ax) (c : C) : Prop := (a.st = 2 ∧ a.W = [] ∧ c.kind = 7) ∨ (a.st = 3 ∧ a.W = [] ∧ c.kind = 6) ∨ (a.st = 5 ∧ a.W = [] ∧ c.kind = 4 ∧ c.spd ≠ 0 ∧ c.spd ≤ a.l.V ∧ -a.l.V ≤ c.spd) ∨ (a.st = 6 ∧ a.W = [] ∧ c.kind = 8 ∧ 0 < c.den) ∨
  (a.st = 4 ∧ ((c.kind = 5 ∧ a.W = []) ∨ (MoveP a c ∧ ∀ x ∈ a.W, MoveP a x ∧ 1 ≤ x.mode)))
theorem lined_none {a : Ax} (hN : a.N = []) (hW : a.W = []) (hs : a.st < 2 ∨ a.st = 3 ∨ a.st = 7) : LinedP a := by unfold LinedP; rw [hN]; exact ⟨hW, hs⟩
theorem lined_one {a : Ax} {c : C} {T : List C} (hN : a.N = c :: T) (h : Lined1 a c) : LinedP a := by unfold LinedP; rw [hN]; exact h
theorem none_lined {a : Ax} (h : LinedP a) (hN : a.N = []) : a.W = [] ∧ (a.st < 2 ∨ a.st = 3 ∨ a.st = 7) := by unfold LinedP at h; rw [hN] at h; exact h
theorem one_lined {a : Ax} (h : LinedP a) {c : C} {T : List C} (hN : a.N = c :: T) : Lined1 a c := by unfold LinedP at h; rw [hN] at h; exact h
theorem RightA.limits {a : Ax} (h : RightA a) : gn.RightL a.l := h.made.1
theorem RightA.win1 {a : Ax} (h : RightA a) : 1 ≤ a.win := h.made.2.1
theorem RightA.none {a : Ax} (h : RightA a) (hs : a.st = 0 ∨ a.st = 1 ∨ a.st = 7) : a.N = [] ∧ a.W = [] := by
 have hl := h.lined
 unfold LinedP at hl
 split at hl
 ·rename_i e; exact ⟨e, hl.1⟩
 ·omega
theorem over_right {a : Ax} (h : RightA a) (i : In) : RightA (overA a i) := by
 have hc := b.clamp i.ov 0 100
 exact { h with
  ov0 := by show 0 ≤ b.clamp i.ov 0 100; unfold b.clamp; omega
  ov1 := by show b.clamp i.ov 0 100 ≤ 100; unfold b.clamp; omega
  lined := h.lined }
theorem failed_right {a : Ax} (h : RightA a) (c : Int) : RightA (failed a c) := by
 have e : (failed a c).st = 7 := nx11 h.st0 h.st7
 exact { made := h.made, st0 := by rw [e]; omega, st7 := by rw [e]; omega, len := h.len, ov0 := h.ov0, ov1 := h.ov1, far := h.far, safe := h.safe, line := right_none, lined := ⟨rfl, .inr (.inr e)⟩, search := fun h2 => absurd h2 (by rw [e]; omega), rows := h.rows, newest := h.newest, near := h.near }
theorem switched_right {a : Ax} (h : RightA a) (h0 : a.st = 0) (actual : Int) : RightA (switched a actual) := by
 unfold switched
 split
 ·rename_i hs
  obtain ⟨hN, hW⟩ := h.none (.inl h0)
  have hst : nxS a.st 1 = 1 := by rw [h0]; rfl
  have hin : (bounds { a with homed := if SwInP a actual then a.homed else false }).lo ≤ swPos a actual ∧ swPos a actual ≤ (bounds { a with homed := if SwInP a actual then a.homed else false }).hi := by
   unfold swPos
   by_cases hi : SwInP a actual
   ·simp only [if_pos hi]; exact hi
   ·simp only [if_neg hi]
    show -1099511627776 ≤ b.clamp (actual - a.off) (-1099511627776) 1099511627776 ∧ b.clamp (actual - a.off) (-1099511627776) 1099511627776 ≤ 1099511627776
    unfold b.clamp; omega
  have hbr : gn.RightL (bounds { a with homed := if SwInP a actual then a.homed else false }) := bounds_right (a := { a with homed := if SwInP a actual then a.homed else false }) h.limits
  exact { made := h.made, st0 := by show 0 ≤ nxS a.st 1; omega, st7 := by show nxS a.st 1 ≤ 7; omega, len := full_len h.win1 _, ov0 := h.ov0, ov1 := h.ov1, far := hs.2.2, safe := stand_safe hbr hin.1 hin.2, line := h.line
          lined := lined_none hN hW (.inl (by show nxS a.st 1 < 2; omega))
          search := fun h2 => absurd h2 (by show nxS a.st 1 ≠ 2; omega)
          rows := fun x hx => by rw [full_rows hx]; have := hbr.2.2.2.2.2.2; omega
          newest := fun x hx => full_head hx, near := near_full _ _ }
 ·exact h
theorem first_right {a : Ax} (h : RightA a) (i : In) : RightA (firstA a i) := by
 unfold firstA
 split
 ·exact failed_right h _
 ·rename_i hc
  split
  ·rename_i h7
   split
   ·obtain ⟨hN, hW⟩ := h.none (.inr (.inr h7))
    have hst : nxS a.st 12 = 1 := by rw [h7]; rfl
    exact { made := h.made, st0 := by show 0 ≤ nxS a.st 12; omega, st7 := by show nxS a.st 12 ≤ 7; omega, len := h.len, ov0 := h.ov0, ov1 := h.ov1, far := h.far, safe := h.safe, line := h.line
            lined := lined_none hN hW (.inl (by show nxS a.st 12 < 2; omega))
            search := fun h2 => absurd h2 (by show nxS a.st 12 ≠ 2; omega), rows := h.rows, newest := h.newest, near := h.near }
   ·exact h
  ·rename_i h7
   split
   ·have hst := nx2 h.st0 h.st7
    have hb := bounds_in h.limits
    have hs := h.safe
    exact { made := h.made, st0 := by show 0 ≤ nxS a.st 2; omega, st7 := by show nxS a.st 2 ≤ 7; omega, len := full_len h.win1 _, ov0 := h.ov0, ov1 := h.ov1, far := h.far, safe := stand_safe (bounds_right h.limits) h.safe.1 h.safe.2.1, line := right_none
            lined := ⟨rfl, .inl (by show nxS a.st 2 < 2; omega)⟩
            search := fun h2 => absurd h2 (by show nxS a.st 2 ≠ 2; omega)
            rows := fun x hx => by rw [full_rows hx]; have h1 := hs.1; have h2 := hs.2.1; omega
            newest := fun x hx => full_head hx, near := near_full _ _ }
   ·split
    ·rename_i h0
     exact switched_right h h0.1 _
    ·exact h
theorem add_ok {a : Ax} {k : C} (h : ln.addE a.N a.W k = 0) : ln.RightL a.N a.W ∧ ln.OkC k ∧ (k.mode = 0 ∧ ln.addN a.N a.W k = [k] ∧ ln.addW a.N a.W k = [] ∨ k.mode ≠ 0 ∧ ¬ 4 < (a.N ++ a.W).length ∧ ln.addN a.N a.W k = (a.N ++ a.W ++ [k]).take 1 ∧ ln.addW a.N a.W k = (a.N ++ a.W ++ [k]).drop 1) := by
 unfold ln.addE at h
 by_cases hk : ln.AddOk a.N a.W k
 ·rw [if_pos hk] at h
  refine ⟨hk.1, hk.2, ?_⟩
  unfold ln.addN ln.addW
  simp only [if_pos hk]
  by_cases h0 : k.mode = 0
  ·simp only [if_pos h0]
   exact .inl ⟨h0, trivial, trivial⟩
  ·rw [if_neg h0] at h
   by_cases h4 : 4 < (a.N ++ a.W).length
   ·rw [if_pos h4] at h; omega
   ·simp only [if_neg h0, if_neg h4]
    exact .inr ⟨h0, h4, trivial, trivial⟩
 ·rw [if_neg hk] at h; omega
theorem move_kept {a : Ax} {c : C} (hp : placed c) (hk : KeptP a c) : takesP a.st ∧ MoveP a (keptC a c) := by
 unfold placed at hp
 obtain ⟨_, hk⟩ := hk
 rcases hk with ⟨_, ht, _, h1, h2, _, h3, h4⟩ | ⟨h, _⟩ | ⟨h, _⟩ | ⟨h, _⟩ | ⟨h, _⟩ | ⟨h, _⟩
 ·refine ⟨ht, ?_⟩
  unfold keptC
  rw [if_pos (show placed c from hp)]
  exact ⟨rfl, h1, h2, h3, h4⟩
 all_goals omega
theorem kept_mode (a : Ax) (c : C) : (keptC a c).mode = c.mode ∧ (keptC a c).id = c.id := by unfold keptC; split <;> exact ⟨rfl, rfl⟩
theorem begun_one {a : Ax} (h : RightA a) {k : C} (ho : ln.OkC k) (m : Int)
  (hk : (takesP a.st ∧ (MoveP a k ∨ k.kind = 5)) ∨ (k.kind = 4 ∧ takesP a.st ∧ k.spd ≠ 0 ∧ k.spd ≤ a.l.V ∧ -a.l.V ≤ k.spd) ∨ (k.kind = 6 ∧ (takesP a.st ∨ a.st = 2)) ∨ (k.kind = 7 ∧ a.st = 1) ∨ (k.kind = 8 ∧ takesP a.st ∧ 0 < k.den)) :
  RightA (begun { a with N := [k], W := [] } k m) := by
 have base : ∀ s : Int, nxS a.st (evOf k.kind) = s → 0 ≤ s → s ≤ 7 → s ≠ 2 → k.kind ≠ 7 → Lined1 (begun { a with N := [k], W := [] } k m) k → RightA (begun { a with N := [k], W := [] } k m) := fun s e h0 h7 h2 hk7 hl => by
  have eb : (begun { a with N := [k], W := [] } k m).homed = a.homed := if_neg hk7
  have ebb : bounds (begun { a with N := [k], W := [] } k m) = bounds a := by unfold bounds; rw [eb]; rfl
  exact { made := h.made, st0 := by show 0 ≤ nxS a.st (evOf k.kind); omega, st7 := by show nxS a.st (evOf k.kind) ≤ 7; omega, len := h.len, ov0 := h.ov0, ov1 := h.ov1, far := h.far, safe := by rw [ebb]; exact h.safe, line := right_one ho, lined := lined_one rfl hl
          search := fun h2' => absurd h2' (by show nxS a.st (evOf k.kind) ≠ 2; omega), rows := h.rows, newest := h.newest, near := h.near }
 have eb' : k.kind ≠ 7 → bounds (begun { a with N := [k], W := [] } k m) = bounds a := fun hk7 => by
  have eb : (begun { a with N := [k], W := [] } k m).homed = a.homed := if_neg hk7
  unfold bounds; rw [eb]; rfl
 rcases hk with ⟨ht, hm | hm⟩ | ⟨hm, ht, h1⟩ | ⟨hm, ht⟩ | ⟨hm, ht⟩ | ⟨hm, ht, h1⟩
 ·have e : nxS a.st (evOf k.kind) = 4 := by rw [hm.1]; exact nx5 ht
  refine base 4 e (by omega) (by omega) (by omega) (by have := hm.1; omega) (.inr (.inr (.inr (.inr ⟨e, .inr ⟨?_, fun x hx => by cases hx⟩⟩))))
  unfold MoveP
  rw [eb' (by have := hm.1; omega)]
  exact hm
 ·have e : nxS a.st (evOf k.kind) = 4 := by rw [hm]; exact nx5 ht
  exact base 4 e (by omega) (by omega) (by omega) (by omega) (.inr (.inr (.inr (.inr ⟨e, .inl ⟨hm, rfl⟩⟩))))
 ·have e : nxS a.st (evOf k.kind) = 5 := by rw [hm]; exact nx6 ht
  exact base 5 e (by omega) (by omega) (by omega) (by omega) (.inr (.inr (.inl ⟨e, rfl, hm, h1⟩)))
 ·have e : nxS a.st (evOf k.kind) = 3 := by rw [hm]; exact nx8 ht
  exact base 3 e (by omega) (by omega) (by omega) (by omega) (.inr (.inl ⟨e, rfl, hm⟩))
 ·have e : nxS a.st (evOf k.kind) = 2 := by rw [hm, ht]; rfl
  have eh : (begun { a with N := [k], W := [] } k m).h = ⟨0, a.fast, a.creep, false⟩ := if_pos hm
  have eb : (begun { a with N := [k], W := [] } k m).homed = false := if_pos hm
  have ebb : bounds (begun { a with N := [k], W := [] } k m) = ⟨a.l.V, a.l.A, a.l.D, -1099511627776, 1099511627776⟩ := by unfold bounds; rw [eb]; rfl
  exact { made := h.made, st0 := by show 0 ≤ nxS a.st (evOf k.kind); omega, st7 := by show nxS a.st (evOf k.kind) ≤ 7; omega, len := h.len, ov0 := h.ov0, ov1 := h.ov1, far := h.far, safe := by rw [ebb]; exact wide_safe h.limits h.safe, line := right_one ho, lined := lined_one rfl (.inl ⟨e, rfl, hm⟩)
          search := fun _ => by rw [eh]; exact h.made.2.2.2.2.2, rows := h.rows, newest := h.newest, near := h.near }
 ·have e : nxS a.st (evOf k.kind) = 6 := by rw [hm]; exact nx7 ht
  exact base 6 e (by omega) (by omega) (by omega) (by omega) (.inr (.inr (.inr (.inl ⟨e, rfl, hm, h1⟩))))
theorem begins_of {a : Ax} {c : C} (hk : KeptP a c) : (takesP a.st ∧ (MoveP a (keptC a c) ∨ (keptC a c).kind = 5)) ∨ ((keptC a c).kind = 4 ∧ takesP a.st ∧ (keptC a c).spd ≠ 0 ∧ (keptC a c).spd ≤ a.l.V ∧ -a.l.V ≤ (keptC a c).spd) ∨ ((keptC a c).kind = 6 ∧ (takesP a.st ∨ a.st = 2)) ∨ ((keptC a c).kind = 7 ∧ a.st = 1) ∨ ((keptC a c).kind = 8 ∧ takesP a.st ∧ 0 < (keptC a c).den) := by
 by_cases hp : placed c
 ·obtain ⟨ht, hm⟩ := move_kept hp hk
  exact .inl ⟨ht, .inl hm⟩
 ·have e : keptC a c = c := if_neg hp
  rw [e]
  rcases hk.2 with ⟨h, _⟩ | h | ⟨h, ht⟩ | h | h | h
  ·exact absurd h hp
  ·exact .inr (.inl h)
  ·exact .inl ⟨ht, .inr h⟩
  ·exact .inr (.inr (.inl h))
  ·exact .inr (.inr (.inr (.inl h)))
  ·exact .inr (.inr (.inr (.inr h)))
theorem placed_not {c : C} (h : placed c) : c.kind ≠ 4 ∧ c.kind ≠ 5 ∧ c.kind ≠ 6 ∧ c.kind ≠ 7 ∧ c.kind ≠ 8 := by unfold placed at h; omega
theorem given_right {a : Ax} (h : RightA a) (c : C) (m : Int) (fresh : Bool) : RightA (givenA a c m fresh) := by
 unfold givenA
 split
 ·rename_i ht
  obtain ⟨hk, _, he⟩ := ht
  obtain ⟨_, ho, hadd⟩ := add_ok he
  have hb := begins_of hk
  have hone : ln.addN a.N a.W (keptC a c) = [keptC a c] → ln.addW a.N a.W (keptC a c) = [] → RightA (begun (lineOf a c) (keptC a c) m) := fun e1 e2 => by
   unfold lineOf
   rw [e1, e2]
   exact begun_one h ho m hb
  rcases hadd with ⟨h0, e1, e2⟩ | ⟨h0, h4, e1, e2⟩
  ·rw [if_pos e2]
   exact hone e1 e2
  ·cases hN : a.N with
   | nil =>
    have hW := (none_lined h.lined hN).1
    rw [hN, hW] at e1 e2
    have e2' : ln.addW [] [] (keptC a c) = [] := e2
    have h1 := hone (by rw [hN, hW]; exact e1) (by rw [hN, hW]; exact e2)
    rw [hW, if_pos e2']
    exact h1
   | cons n T =>
    have hT := one_of h.line hN
    subst hT
    have hmode : 0 < c.mode := by have := ho.1; rw [(kept_mode a c).1] at this h0; omega
    obtain ⟨hp, hpn⟩ := hk.1.2 hmode
    have hpn := placed_not (hpn n (by rw [hN]; rfl))
    have hl := one_lined h.lined hN
    obtain ⟨h4s, hmv⟩ : a.st = 4 ∧ MoveP a n ∧ ∀ x ∈ a.W, MoveP a x ∧ 1 ≤ x.mode := by
     rcases hl with ⟨_, _, hx⟩ | ⟨_, _, hx⟩ | ⟨_, _, hx, _⟩ | ⟨_, _, hx, _⟩ | ⟨hs, ⟨hx, _⟩ | hx⟩
     ·exact absurd hx hpn.2.2.2.1
     ·exact absurd hx hpn.2.2.1
     ·exact absurd hx hpn.1
     ·exact absurd hx hpn.2.2.2.2
     ·exact absurd hx hpn.2.1
     ·exact ⟨hs, hx⟩
    obtain ⟨_, hmk⟩ := move_kept hp hk
    rw [hN] at e1 e2 h4
    have e1' : ln.addN [n] a.W (keptC a c) = [n] := by rw [e1]; rfl
    have e2' : ln.addW [n] a.W (keptC a c) = a.W ++ [keptC a c] := by rw [e2]; rfl
    rw [e2', if_neg (by simp)]
    have eL : lineOf a c = { a with N := [n], W := a.W ++ [keptC a c] } := by unfold lineOf; rw [hN, e1', e2']
    rw [eL]
    have hlen : a.W.length + 1 ≤ 4 := by
     rw [List.length_append, List.length_singleton] at h4; omega
    exact { made := h.made, st0 := h.st0, st7 := h.st7, len := h.len, ov0 := h.ov0, ov1 := h.ov1, far := h.far, safe := h.safe
            line := ⟨fun x hx => by
             have h1 := h.line.1
             rw [hN] at h1
             rcases List.mem_append.1 hx with hx | hx
             ·exact h1 x (List.mem_append_left _ hx)
             ·rcases List.mem_append.1 hx with hx | hx
              ·exact h1 x (List.mem_append_right _ hx)
              ·have e : x = keptC a c := by simpa using hx
               rw [e]; exact ho, by simp, by rw [List.length_append, List.length_singleton]; omega, .inl rfl⟩
            lined := lined_one rfl (.inr (.inr (.inr (.inr ⟨h4s, .inr ⟨hmv.1, fun x hx => by
             rcases List.mem_append.1 hx with hx | hx
             ·exact hmv.2 x hx
             ·have e : x = keptC a c := by simpa using hx
              rw [e]; exact ⟨hmk, by rw [(kept_mode a c).1]; omega⟩⟩⟩))))
            search := h.search, rows := h.rows, newest := h.newest, near := h.near }
 ·exact h
theorem all_right (m : Int) (fresh : Bool) : ∀ (L : List C) {a : Ax}, RightA a → RightA (allA m fresh L a)
 | [], _, h => h
 | c :: L, _, h => all_right m fresh L (given_right h c m fresh)
theorem pre_right {a : Ax} (h : RightA a) (i : In) : RightA (preA a i) := all_right _ _ _ (first_right (over_right h i) i)
end Go.Proofs.YtijlccblabadaaaGreat.ax
end
section
namespace Go.Proofs.YtijlccblabadaaaGreat.ax
open Go.Proofs.YtijlccblabadaaaGreat.ln (C)
open Go.Proofs.YtijlccblabadaaaGreat.hm (H)
open Go.Proofs.YtijlccblabadaaaGreat.ed (nxS nxB)
set_option linter.unusedVariables false
theorem wants_same (a : Ax) (i : In) : (wantsA a i).st = a.st ∧ (wantsA a i).l = a.l ∧ (wantsA a i).win = a.win ∧ (wantsA a i).homeAt = a.homeAt ∧ (wantsA a i).fast = a.fast ∧ (wantsA a i).creep = a.creep ∧ (wantsA a i).p = a.p ∧ (wantsA a i).v = a.v ∧ (wantsA a i).sm = a.sm ∧ (wantsA a i).off = a.off ∧ (wantsA a i).N = a.N ∧ (wantsA a i).W = a.W ∧ (wantsA a i).homed = a.homed ∧ (wantsA a i).ov = a.ov ∧ (wantsA a i).start = a.start ∧ (wantsA a i).master = a.master ∧ (wantsA a i).cause = a.cause := by
 unfold wantsA
 split
 ·simp
 ·split
  ·simp
  ·split <;> simp
theorem wants_search {a : Ax} (i : In) (h2 : a.st = 2) (hr : hm.RightH a.h) : hm.RightH (wantsA a i).h := by
 unfold wantsA
 rw [if_pos h2]
 show hm.RightH (if a.h.ph < 4 then _ else a.h)
 split
 ·exact hm.step_right hr _ _ _ _
 ·exact hr
structure MovedTo (a b : Ax) : Prop where
 st : b.st = a.st
 l : b.l = a.l
 win : b.win = a.win
 homeAt : b.homeAt = a.homeAt
 fast : b.fast = a.fast
 creep : b.creep = a.creep
 off : b.off = a.off
 N : b.N = a.N
 W : b.W = a.W
 homed : b.homed = a.homed
 ov : b.ov = a.ov
 sm : b.sm = a.sm
theorem moved_to (a : Ax) (i : In) : MovedTo a (movedA a i) := by
 unfold movedA
 split
 ·exact ⟨rfl, rfl, rfl, rfl, rfl, rfl, rfl, rfl, rfl, rfl, rfl, rfl⟩
 ·obtain ⟨h1, h2, h3, h4, h5, h6, _, _, h9, h10, h11, h12, h13, h14, _⟩ := wants_same a i
  exact ⟨h1, h2, h3, h4, h5, h6, h10, h11, h12, h13, h14, h9⟩
theorem moved_by {a : Ax} (h : RightA a) (i : In) : gn.SafeP (bounds a) (movedA a i).p (movedA a i).v ∧ (movedA a i).p - a.p ≤ 1048576 ∧ a.p - (movedA a i).p ≤ 1048576 := by
 unfold movedA
 split
 ·exact ⟨h.safe, by omega, by omega⟩
 ·have hk := gn.step_kept (bounds_right h.limits) h.safe (wantsV a i)
  have h3 := hk.safe.2.2.1
  have h4 := hk.safe.2.2.2.1
  refine ⟨hk.safe, ?_, ?_⟩
  ·show a.p + _ - a.p ≤ _; omega
  ·show a.p - (a.p + _) ≤ _; omega
theorem same_move {a b : Ax} (h1 : b.l = a.l) (h2 : b.homed = a.homed) (c : C) : MoveP b c ↔ MoveP a c := by
 unfold MoveP bounds; rw [h1, h2]
theorem same_lined {a b : Ax} (hs : b.st = a.st) (hN : b.N = a.N) (hW : b.W = a.W) (h1 : b.l = a.l) (h2 : b.homed = a.homed) (h : LinedP a) : LinedP b := by
 cases hc : a.N with
 | nil =>
  obtain ⟨q1, q2⟩ := none_lined h hc
  exact lined_none (by rw [hN, hc]) (by rw [hW, q1]) (by rw [hs]; exact q2)
 | cons c T =>
  have q := one_lined h hc
  refine lined_one (by rw [hN, hc]) ?_
  unfold Lined1 at *
  rw [hs, hW, h1]
  rcases q with q | q | q | q | ⟨q1, q | ⟨q2, q3⟩⟩
  ·exact .inl q
  ·exact .inr (.inl q)
  ·exact .inr (.inr (.inl q))
  ·exact .inr (.inr (.inr (.inl q)))
  ·exact .inr (.inr (.inr (.inr ⟨q1, .inl q⟩)))
  ·exact .inr (.inr (.inr (.inr ⟨q1, .inr ⟨(same_move h1 h2 c).2 q2, fun x hx => ⟨(same_move h1 h2 x).2 (q3 x hx).1, (q3 x hx).2⟩⟩⟩)))
theorem step_search {a : Ax} (h : RightA a) (i : In) (h2 : (movedA a i).st = 2) : hm.RightH (movedA a i).h := by
 rw [(moved_to a i).st] at h2
 unfold movedA
 rw [if_neg (by omega)]
 exact wants_search i h2 (h.search h2)
theorem pushed_right {a : Ax} (h : RightA a) (i : In) : RightA (pushed (movedA a i)) := by
 have hm := moved_to a i
 obtain ⟨hs, d1, d2⟩ := moved_by h i
 have hb : bounds (pushed (movedA a i)) = bounds a := by unfold bounds; show (if (movedA a i).homed = true then (movedA a i).l else _) = _; rw [hm.homed]; unfold pushed; dsimp only; rw [hm.l]
 have hbi := bounds_in h.limits
 have hsrch := step_search h i
 have hlen := h.len
 have hw := h.win1
 refine { made := by show MadeP (movedA a i).l (movedA a i).win (movedA a i).homeAt (movedA a i).fast (movedA a i).creep; rw [hm.l, hm.win, hm.homeAt, hm.fast, hm.creep]; exact h.made
          st0 := by show 0 ≤ (movedA a i).st; rw [hm.st]; exact h.st0
          st7 := by show (movedA a i).st ≤ 7; rw [hm.st]; exact h.st7
          len := by
           show ((((movedA a i).p :: (movedA a i).sm.dropLast).length : Nat) : Int) = (movedA a i).win
           rw [hm.sm, hm.win, List.length_cons, List.length_dropLast]; omega
          ov0 := by show 0 ≤ (movedA a i).ov; rw [hm.ov]; exact h.ov0
          ov1 := by show (movedA a i).ov ≤ 100; rw [hm.ov]; exact h.ov1
          far := by show FarP (movedA a i).off; rw [hm.off]; exact h.far
          safe := by rw [hb]; exact hs
          line := by show ln.RightL (movedA a i).N (movedA a i).W; rw [hm.N, hm.W]; exact h.line
          lined := same_lined (a := a) (b := pushed (movedA a i)) hm.st hm.N hm.W hm.l hm.homed h.lined
          search := hsrch
          rows := fun x hx => ?_
          newest := fun x hx => by
           have e : (movedA a i).p = x := by simpa [pushed] using hx
           exact e.symm
          near := by
           show Near ((movedA a i).p :: (movedA a i).sm.dropLast)
           rw [hm.sm]
           exact near_push d1 d2 h.newest h.near }
 have hx : x ∈ (movedA a i).p :: (movedA a i).sm.dropLast := hx
 rw [hm.sm] at hx
 rcases List.mem_cons.1 hx with rfl | hx
 ·have q1 := hs.1
  have q2 := hs.2.1
  omega
 ·exact h.rows x (List.dropLast_subset _ hx)
theorem leaves_right {a : Ax} (h : RightA a) (hW : a.W = []) {s : Int} (hs : s = 0 ∨ s = 1 ∨ s = 3 ∨ s = 7) : RightA { leaves a with st := s } := by
 have e1 : (leaves a).N = [] := by show a.W.take 1 = []; rw [hW]; rfl
 have e2 : (leaves a).W = [] := by show a.W.drop 1 = []; rw [hW]; rfl
 exact { made := h.made, st0 := by show 0 ≤ s; omega, st7 := by show s ≤ 7; omega, len := h.len, ov0 := h.ov0, ov1 := h.ov1, far := h.far, safe := h.safe
         line := by show ln.RightL (leaves a).N (leaves a).W; rw [e1, e2]; exact right_none
         lined := lined_none e1 e2 (by show s < 2 ∨ s = 3 ∨ s = 7; omega), search := fun h2 => absurd h2 (by show s ≠ 2; omega), rows := h.rows, newest := h.newest, near := h.near }
theorem state_one {a : Ax} (h : RightA a) (hN : a.N = []) {s : Int} (hs : s = 0 ∨ s = 1 ∨ s = 3 ∨ s = 7) : RightA { a with st := s } := by
 have hW := (none_lined h.lined hN).1
 exact { made := h.made, st0 := by show 0 ≤ s; omega, st7 := by show s ≤ 7; omega, len := h.len, ov0 := h.ov0, ov1 := h.ov1, far := h.far, safe := h.safe, line := h.line
         lined := lined_none hN hW (by show s < 2 ∨ s = 3 ∨ s = 7; omega), search := fun h2 => absurd h2 (by show s ≠ 2; omega), rows := h.rows, newest := h.newest, near := h.near }
theorem move_ends {a : Ax} (h : RightA a) (h4 : a.st = 4) {c : C} {T : List C} (hN : a.N = c :: T) (m : Int) : RightA (endedA a 10 m) := by
 unfold endedA
 have hl := one_lined h.lined hN
 have e10 : nxS a.st 10 = 1 := by rw [h4]; rfl
 cases hW : a.W with
 | nil =>
  have := leaves_right h hW (s := 1) (by omega)
  rw [← e10] at this
  exact this
 | cons n R =>
  have hmv : ∀ x ∈ a.W, MoveP a x ∧ 1 ≤ x.mode := by
   rcases hl with ⟨q, _⟩ | ⟨q, _⟩ | ⟨q, _⟩ | ⟨q, _⟩ | ⟨_, ⟨_, q⟩ | ⟨_, q⟩⟩
   ·omega
   ·omega
   ·omega
   ·omega
   ·rw [hW] at q; cases q
   ·exact q
  have hn := (hmv n (by rw [hW]; exact List.mem_cons_self)).1
  have hk := hn.1
  have hl' := h.line
  have hr := right_tail hl' (by rw [hN]; simp)
  rw [hW] at hr
  have es : nxS a.st (evOf n.kind) = 4 := by rw [h4, hk]; rfl
  have eh : (begun (leaves a) n m).homed = a.homed := if_neg (by omega)
  have eb : bounds (begun (leaves a) n m) = bounds a := by unfold bounds; rw [eh]; rfl
  have eN : (leaves a).N = [n] := by show a.W.take 1 = [n]; rw [hW]; rfl
  have eW : (leaves a).W = R := by show a.W.drop 1 = R; rw [hW]; rfl
  exact { made := h.made, st0 := by show 0 ≤ nxS a.st (evOf n.kind); omega, st7 := by show nxS a.st (evOf n.kind) ≤ 7; omega, len := h.len, ov0 := h.ov0, ov1 := h.ov1, far := h.far, safe := by rw [eb]; exact h.safe
          line := by show ln.RightL (leaves a).N (leaves a).W; rw [eN, eW]; exact hr
          lined := lined_one (c := n) (T := []) eN (.inr (.inr (.inr (.inr ⟨es, .inr ⟨by unfold MoveP; rw [eb]; exact hn, fun x hx => by
           have hx : x ∈ (leaves a).W := hx
           rw [eW] at hx
           have := hmv x (by rw [hW]; exact List.mem_cons_of_mem _ hx)
           refine ⟨?_, this.2⟩
           unfold MoveP; rw [eb]; exact this.1⟩⟩))))
          search := fun h2 => absurd h2 (by show nxS a.st (evOf n.kind) ≠ 2; omega), rows := h.rows, newest := h.newest, near := h.near }
theorem home_line {a : Ax} (h : RightA a) (h2 : a.st = 2) : (∃ c T, a.N = c :: T) ∧ a.W = [] := by
 cases hN : a.N with
 | nil => have := (none_lined h.lined hN).2; omega
 | cons c T =>
  refine ⟨⟨c, T, rfl⟩, ?_⟩
  rcases one_lined h.lined hN with ⟨_, q, _⟩ | ⟨q, _⟩ | ⟨q, _⟩ | ⟨q, _⟩ | ⟨q, _⟩
  ·exact q
  all_goals omega
theorem stop_line {a : Ax} (h : RightA a) (h3 : a.st = 3) : a.W = [] := by
 cases hN : a.N with
 | nil => exact (none_lined h.lined hN).1
 | cons c T =>
  rcases one_lined h.lined hN with ⟨q, _⟩ | ⟨_, q, _⟩ | ⟨q, _⟩ | ⟨q, _⟩ | ⟨q, _⟩
  ·omega
  ·exact q
  all_goals omega
theorem found_ends {a : Ax} (h : RightA a) (h2 : a.st = 2) (hf : FarP (homeOff a)) (m : Int) : RightA (endedA (found a) 4 m) := by
 obtain ⟨_, hW⟩ := home_line h h2
 have eW : (found a).W = [] := hW
 unfold endedA
 rw [eW]
 have e : nxS a.st 4 = 1 := by rw [h2]; rfl
 have e1 : (leaves (found a)).N = [] := by show a.W.take 1 = []; rw [hW]; rfl
 have e2 : (leaves (found a)).W = [] := by show a.W.drop 1 = []; rw [hW]; rfl
 have hm := h.made
 exact { made := h.made, st0 := by show 0 ≤ nxS a.st 4; omega, st7 := by show nxS a.st 4 ≤ 7; omega, len := full_len h.win1 _, ov0 := h.ov0, ov1 := h.ov1, far := hf, safe := stand_safe h.limits hm.2.2.2.1 hm.2.2.2.2.1
         line := by show ln.RightL (leaves (found a)).N (leaves (found a)).W; rw [e1, e2]; exact right_none
         lined := lined_none e1 e2 (.inl (by show nxS a.st 4 < 2; omega)), search := fun h2' => absurd h2' (by show nxS a.st 4 ≠ 2; omega)
         rows := fun x hx => by rw [full_rows hx]; have := h.limits.2.2.2.2.2.2; have := hm.2.2.2.1; have := hm.2.2.2.2.1; omega
         newest := fun x hx => full_head hx, near := near_full _ _ }
theorem last_right {a : Ax} (h : RightA a) (passed : Bool) (i : In) : RightA (lastA a passed i) := by
 unfold lastA
 split
 ·rename_i hm
  cases hN : a.N with
  | nil => exact absurd hN hm.2.1
  | cons c T => exact move_ends h hm.1 hN _
 ·split
  ·rename_i h3
   split
   ·have := leaves_right h (stop_line h h3.1) (s := 3) (by omega)
    rw [← h3.1] at this
    exact this
   ·rename_i hN
    have hN : a.N = [] := Classical.byContradiction hN
    split
    ·have e : nxS a.st 9 = 1 := by rw [h3.1]; rfl
     have := state_one h hN (s := 1) (by omega)
     rw [← e] at this
     exact this
    ·exact h
  ·split
   ·rename_i h2
    split
    ·rename_i hf
     split
     ·exact found_ends h h2.1 hf _
     ·rename_i hN
      obtain ⟨⟨c, T, hc⟩, _⟩ := home_line h h2.1
      exact absurd (by rw [hc]; simp) hN
    ·exact failed_right h _
   ·split
    ·exact failed_right h _
    ·exact h
theorem step_right {a : Ax} (h : RightA a) (i : In) : RightA (stepA a i) := last_right (pushed_right (pre_right h i) i) _ i
end Go.Proofs.YtijlccblabadaaaGreat.ax
end
section
namespace Go.Proofs.YtijlccblabadaaaGreat.ax
open Go.Proofs.YtijlccblabadaaaGreat.ln (C)
open Go.Proofs.YtijlccblabadaaaGreat.hm (H)
open Go.Proofs.YtijlccblabadaaaGreat.ed (nxS nxB)
set_option linter.unusedVariables false
theorem sum_rep (p : Int) : ∀ n : Nat, sumOf (List.replicate n p) = n * p
 | 0 => by simp [sumOf]
 | n + 1 => by
  have := sum_rep p n
  unfold sumOf at *
  rw [List.replicate_succ, List.foldr_cons, this, Int.natCast_succ, Int.add_mul]; omega
theorem sum_same {L : List Int} {p : Int} (h : ∀ x ∈ L, x = p) : sumOf L = L.length * p := by
 have e : L = List.replicate L.length p := List.eq_replicate_iff.2 ⟨rfl, h⟩
 rw [e, sum_rep]; simp
theorem given_same (a : Ax) (c : C) (m : Int) (fresh : Bool) : (givenA a c m fresh).sm = a.sm ∧ (givenA a c m fresh).off = a.off ∧ (givenA a c m fresh).win = a.win ∧ (givenA a c m fresh).p = a.p ∧ (givenA a c m fresh).v = a.v := by
 unfold givenA
 split
 ·split <;> exact ⟨rfl, rfl, rfl, rfl, rfl⟩
 ·exact ⟨rfl, rfl, rfl, rfl, rfl⟩
def Tr (s t : Int) : Prop := t = s ∨ (s = 1 ∧ 2 ≤ t ∧ t ≤ 6) ∨ (4 ≤ s ∧ s ≤ 6 ∧ 3 ≤ t ∧ t ≤ 6) ∨ (s = 2 ∧ t = 3)
def EdgeP (s t : Int) : Prop := t = s ∨ ∃ e, 1 ≤ e ∧ e ≤ 12 ∧ nxB s e = true ∧ nxS s e = t
end Go.Proofs.YtijlccblabadaaaGreat.ax
end
section
namespace Go.Proofs.YtijlccblabadaaaGreat.ax
open Go.Proofs.YtijlccblabadaaaGreat.ln (C)
open Go.Proofs.YtijlccblabadaaaGreat.hm (H)
open Go.Proofs.YtijlccblabadaaaGreat.ed (nxS nxB)
set_option linter.unusedVariables false
theorem last_same {a : Ax} (h2 : a.st ≠ 2) (h3 : a.st ≠ 3) (h4 : a.st ≠ 4) (passed : Bool) (i : In) : lastA a passed i = a ∧ lastR a passed i = [] := by
 unfold lastA lastR
 rw [if_neg (fun h => h4 h.1), if_neg (fun h => h3 h.1), if_neg (fun h => h2 h.1), if_neg (fun h => h2 h.1), if_neg (fun h => h4 h.1), if_neg (fun h => h3 h.1), if_neg (fun h => h2 h.1), if_neg (fun h => h2 h.1)]
 exact ⟨rfl, rfl⟩
theorem moved_none {a : Ax} (h0 : a.st ≠ 0) (h2 : a.st ≠ 2) (hN : a.N = []) (i : In) : movedA a i = { a with p := a.p + gn.stepV (bounds a) a.p a.v 0, v := gn.stepV (bounds a) a.p a.v 0 } := by
 have e1 : wantsA a i = a := by unfold wantsA; rw [if_neg h2, hN]
 have e2 : wantsV a i = 0 := by unfold wantsV; rw [if_neg h2, hN]
 unfold movedA
 rw [if_neg h0, e1, e2]
def Lead (L : List Int) (p : Int) (k : Nat) : Prop := ∀ j, j < k → j < L.length → L[j]? = some p
structure QuietI (a : Ax) (i : In) : Prop where
 power : i.power = true
 op : i.op = true
 cause : i.cause = 0
 ov : i.ov = a.ov
 cmds : i.cmds = []
def shiftOff (a : Ax) (place : Int) : Int := a.off - (place - a.p)
def ShiftP (a : Ax) (place : Int) : Prop := RightA a ∧ StillP a ∧ a.N = [] ∧ (bounds a).lo ≤ place ∧ place ≤ (bounds a).hi ∧ FarP (shiftOff a place)
def shifted (a : Ax) (place : Int) : Ax := { stood a place with off := shiftOff a place }
theorem shift_all {a : Ax} (h : RightA a) (hs : StillP a) : ∀ x ∈ a.sm, x = a.p := fun x hx => by
 have h1 := hs.1 x hx
 cases hsm : a.sm with
 | nil => rw [hsm] at hx; cases hx
 | cons y T =>
  rw [hsm] at h1
  rw [h1]
  exact h.newest y (by rw [hsm]; rfl)
end Go.Proofs.YtijlccblabadaaaGreat.ax
end
section
namespace Go.Proofs.YtijlccblabadaaaGreat.ax
open Go.Proofs.YtijlccblabadaaaGreat.ln (C)
open Go.Proofs.YtijlccblabadaaaGreat.hm (H)
open Go.Proofs.YtijlccblabadaaaGreat.ed (nxS nxB)
set_option linter.unusedVariables false
structure Fly (a : Ax) (c : C) : Prop where
 right : RightA a
 st : a.st = 4
 N : a.N = [c]
 W : a.W = []
 kind : c.kind = 1
 ov : a.ov = 100
def Left (a : Ax) (c : C) (m : Int) : Prop := (a.p = c.tgt ∧ a.v = 0 ∧ ∃ k : Nat, Lead a.sm c.tgt k ∧ 17 ≤ k + m) ∨ (¬ (a.p = c.tgt ∧ a.v = 0) ∧ gn.MM (bounds a) c.tgt a.p a.v + 17 ≤ m)
theorem spd_full {a : Ax} (h : a.ov = 100) (c : C) : spdOf a c = c.spd := by
 unfold spdOf
 rw [h]
 exact Int.mul_tdiv_cancel _ (by omega)
theorem fly_moved {a : Ax} {c : C} (h : Fly a c) (i : In) : movedA a i = { a with p := a.p + gn.stepV (bounds a) a.p a.v (gn.toV (bounds a) a.p a.v c.tgt c.spd), v := gn.stepV (bounds a) a.p a.v (gn.toV (bounds a) a.p a.v c.tgt c.spd) } := by
 have e1 : wantsA a i = a := by
  unfold wantsA
  rw [if_neg (by have := h.st; omega), h.N]
  show (if a.st = 6 then _ else a) = a
  rw [if_neg (by have := h.st; omega)]
 have hby : ¬ ByP a := fun hb => by
  have := hb.2
  rw [h.N, h.W] at this
  exact this
 have e2 : wantsV a i = gn.toV (bounds a) a.p a.v c.tgt c.spd := by
  unfold wantsV
  rw [if_neg (by have := h.st; omega), h.N]
  show (if a.st = 5 then _ else if a.st = 6 then _ else if a.st = 4 ∧ c.kind = 1 then (if ByP a then _ else _) else 0) = _
  rw [if_neg (by have := h.st; omega), if_neg (by have := h.st; omega), if_pos ⟨h.st, h.kind⟩, if_neg hby, spd_full h.ov]
 unfold movedA
 rw [if_neg (by have := h.st; omega), e1, e2]
theorem fly_last {b : Ax} {c : C} (h : Fly b c) (i : In) : (lastA b false i = b ∧ lastR b false i = [] ∧ ¬ (StillP b ∧ b.p = c.tgt)) ∨
  (lastR b false i = [(c.id, 2)] ∧ (lastA b false i).st = 1 ∧ (lastA b false i).p = c.tgt ∧ (lastA b false i).v = 0 ∧ outA (lastA b false i) = b.win * (c.tgt + b.off) ∧ (lastA b false i).win = b.win ∧ (lastA b false i).off = b.off) := by
 by_cases hs : StillP b ∧ b.p = c.tgt
 ·refine .inr ?_
  have he : MoveEnds b false := ⟨h.st, by rw [h.N]; simp, .inr ⟨hs.1, by rw [h.N]; exact .inr hs.2.symm⟩⟩
  have e1 : lastA b false i = goes (leaves b) 10 := by
   unfold lastA
   rw [if_pos he]
   unfold endedA
   rw [h.W]
  have e2 : lastR b false i = [(c.id, 2)] := by
   unfold lastR
   rw [if_pos he]
   unfold endedR idOf
   rw [h.W, h.N]
  have hall := shift_all h.right hs.1
  have hlen := h.right.len
  rw [e1, e2]
  refine ⟨rfl, by show nxS b.st 10 = 1; rw [h.st]; rfl, hs.2, hs.1.2, ?_, rfl, rfl⟩
  show sumOf b.sm + b.win * b.off = _
  rw [sum_same hall, hlen, hs.2, Int.mul_add]
 ·refine .inl ⟨?_, ?_, hs⟩
  ·have hn : ¬ MoveEnds b false := fun he => by
    rcases he.2.2 with q | ⟨q1, q2⟩
    ·cases q
    ·rw [h.N] at q2
     exact hs ⟨q1, (q2.resolve_left (fun q => q h.kind)).symm⟩
   unfold lastA
   rw [if_neg hn, if_neg (fun q => by have := h.st; have := q.1; omega), if_neg (fun q => by have := h.st; have := q.1; omega), if_neg (fun q => by have := h.st; have := q.1; omega)]
  ·have hn : ¬ MoveEnds b false := fun he => by
    rcases he.2.2 with q | ⟨q1, q2⟩
    ·cases q
    ·rw [h.N] at q2
     exact hs ⟨q1, (q2.resolve_left (fun q => q h.kind)).symm⟩
   unfold lastR
   rw [if_neg hn, if_neg (fun q => by have := h.st; have := q.1; omega), if_neg (fun q => by have := h.st; have := q.1; omega), if_neg (fun q => by have := h.st; have := q.1; omega)]
theorem fly_by {a : Ax} {c : C} (h : Fly a c) (i : In) : byB a i = false := by
 unfold byB
 refine decide_eq_false fun q => ?_
 have := q.2.1.2
 rw [h.N, h.W] at this
 exact this
structure GoI (i : In) : Prop where
 power : i.power = true
 op : i.op = true
 cause : i.cause = 0
 ov : i.ov = 100
 plus : i.plus = false
 minus : i.minus = false
def relC (id way speed : Int) : C := ⟨id, 2, way, speed, 0, 0, 0⟩
end Go.Proofs.YtijlccblabadaaaGreat.ax
end
section
namespace Go.Proofs.YtijlccblabadaaaGreat.ax
open Go.Proofs.YtijlccblabadaaaGreat.ln (C)
open Go.Proofs.YtijlccblabadaaaGreat.hm (H)
open Go.Proofs.YtijlccblabadaaaGreat.ed (nxS nxB)
set_option linter.unusedVariables false
structure WideC (c : C) : Prop where
 id : InR c.id
 kind : InR c.kind
 tgt : InR c.tgt
 spd : InR c.spd
 mode : InR c.mode
 num : InR c.num
 den : InR c.den
structure KeepW (a : Ax) : Prop where
 ph : InR a.h.ph
 f : InR a.h.f
 c : InR a.h.c
 start : InR a.start
 master : InR a.master
 cause : InR a.cause
 cmds : ∀ x ∈ a.N ++ a.W, WideC x
structure WideA (a : Ax) : Prop where
 st : InR a.st
 V : InR a.l.V
 A : InR a.l.A
 D : InR a.l.D
 lo : InR a.l.lo
 hi : InR a.l.hi
 win : InR a.win
 homeAt : InR a.homeAt
 fast : InR a.fast
 creep : InR a.creep
 p : InR a.p
 v : InR a.v
 sm : ∀ x ∈ a.sm, InR x
 off : InR a.off
 ov : InR a.ov
 keep : KeepW a
structure WideI (i : In) : Prop where
 actual : InR i.actual
 cause : InR i.cause
 ov : InR i.ov
 master : InR i.master
 cmds : ∀ x ∈ i.cmds, WideC x
theorem small {x : Int} (h0 : -9000000000000000000 ≤ x) (h1 : x ≤ 9000000000000000000) : InR x := ⟨by omega, by omega⟩
theorem speeds {a : Ax} (h : RightA a) : InR a.fast ∧ InR a.creep := by
 obtain ⟨_, _, h3⟩ := h.made.2.2.2.2.2
 dsimp only at h3
 exact ⟨small (by omega) (by omega), small (by omega) (by omega)⟩
theorem place_in {a : Ax} (h : RightA a) : -1099511627776 ≤ a.p ∧ a.p ≤ 1099511627776 := by
 have hb := bounds_right h.limits
 have hs := h.safe
 exact ⟨Int.le_trans hb.2.2.2.2.2.2.1 hs.1, Int.le_trans hs.2.1 hb.2.2.2.2.2.2.2.1⟩
theorem wide_of {a : Ax} (h : RightA a) (k : KeepW a) : WideA a := by
 obtain ⟨l1, l2, l3, l4, l5, l6, l7, l8, l9⟩ := h.limits
 obtain ⟨_, m1, m2, m3, m4, _⟩ := h.made
 have hp := place_in h
 have hv := h.safe.2.2
 have hf := h.far
 have h0 := h.st0
 have h7 := h.st7
 have o0 := h.ov0
 have o1 := h.ov1
 unfold FarP at hf
 exact ⟨small (by omega) (by omega), small (by omega) (by omega), small (by omega) (by omega), small (by omega) (by omega), small (by omega) (by omega), small (by omega) (by omega), small (by omega) (by omega), small (by omega) (by omega), (speeds h).1, (speeds h).2, small (by omega) (by omega), small (by omega) (by omega), fun x hx => by have := h.rows x hx; exact small (by omega) (by omega), small (by omega) (by omega), small (by omega) (by omega), k⟩
theorem cause_in {a : Ax} (i : In) (hi : WideI i) : InR (causeOf a i) := by
 have hc := hi.cause
 unfold causeOf
 split
 ·split
  ·exact hc
  ·exact small (by omega) (by omega)
 ·split
  ·exact hc
  ·split
   ·exact small (by omega) (by omega)
   ·split <;> exact small (by omega) (by omega)
theorem keep_failed {a : Ax} (k : KeepW a) {c : Int} (hc : InR c) : KeepW (failed a c) := ⟨k.ph, k.f, k.c, k.start, k.master, hc, fun x hx => by cases hx⟩
theorem keep_first {a : Ax} (k : KeepW a) {i : In} (hi : WideI i) : KeepW (firstA a i) := by
 unfold firstA
 split
 ·exact keep_failed k (cause_in i hi)
 ·split
  ·split
   ·exact ⟨k.ph, k.f, k.c, k.start, k.master, small (by show (-9000000000000000000 : Int) ≤ 0; omega) (by show (0 : Int) ≤ 9000000000000000000; omega), k.cmds⟩
   ·exact k
  ·split
   ·exact ⟨k.ph, k.f, k.c, k.start, k.master, k.cause, fun x hx => by cases hx⟩
   ·split
    ·unfold switched
     split
     ·exact ⟨k.ph, k.f, k.c, k.start, k.master, k.cause, k.cmds⟩
     ·exact k
    ·exact k
theorem keep_begun {a : Ax} (k : KeepW a) (h : RightA a) (c : C) {m : Int} (hm : InR m) {a' : Ax} (hp : a'.p = a.p) (hf : a'.fast = a.fast) (hc : a'.creep = a.creep) (hh : a'.h = a.h) (hs : a'.start = a.start) (hma : a'.master = a.master) (hca : a'.cause = a.cause) (hl : ∀ x ∈ a'.N ++ a'.W, WideC x) : KeepW (begun a' c m) := by
 have hpl := place_in h
 have hsp := speeds h
 unfold begun
 refine ⟨?_, ?_, ?_, ?_, ?_, ?_, ?_⟩
 ·show InR (if c.kind = 7 then (⟨0, a'.fast, a'.creep, false⟩ : H) else a'.h).ph
  split
  ·exact small (by show (-9000000000000000000 : Int) ≤ 0; omega) (by show (0 : Int) ≤ 9000000000000000000; omega)
  ·rw [hh]; exact k.ph
 ·show InR (if c.kind = 7 then (⟨0, a'.fast, a'.creep, false⟩ : H) else a'.h).f
  split
  ·show InR a'.fast; rw [hf]; exact hsp.1
  ·rw [hh]; exact k.f
 ·show InR (if c.kind = 7 then (⟨0, a'.fast, a'.creep, false⟩ : H) else a'.h).c
  split
  ·show InR a'.creep; rw [hc]; exact hsp.2
  ·rw [hh]; exact k.c
 ·show InR (if c.kind = 8 then a'.p else a'.start)
  split
  ·rw [hp]; exact small (by omega) (by omega)
  ·rw [hs]; exact k.start
 ·show InR (if c.kind = 8 then m else a'.master)
  split
  ·exact hm
  ·rw [hma]; exact k.master
 ·show InR a'.cause
  rw [hca]; exact k.cause
 ·exact hl
theorem kept_wide {a : Ax} {c : C} (h : WideC c) (hk : KeptP a c) : WideC (keptC a c) := by
 unfold keptC
 split
 ·rename_i hp
  refine ⟨h.id, small (by show (-9000000000000000000 : Int) ≤ 1; omega) (by show (1 : Int) ≤ 9000000000000000000; omega), ?_, h.spd, h.mode, h.num, h.den⟩
  show InR (placeOf a c)
  obtain ⟨_, hk⟩ := hk
  have hpp := hp
  unfold placed at hpp
  rcases hk with ⟨_, _, h1 | h1, _⟩ | ⟨h1, _⟩ | ⟨h1, _⟩ | ⟨h1, _⟩ | ⟨h1, _⟩ | ⟨h1, _⟩
  ·unfold placeOf; rw [if_pos h1]; exact h.tgt
  ·exact h1
  all_goals omega
 ·exact h
theorem keep_given {a : Ax} (k : KeepW a) (h : RightA a) {c : C} (hc : WideC c) {m : Int} (hm : InR m) (fresh : Bool) : KeepW (givenA a c m fresh) := by
 unfold givenA
 split
 ·rename_i ht
  have hkw := kept_wide hc ht.1
  have hl : ∀ x ∈ (lineOf a c).N ++ (lineOf a c).W, WideC x := by
   obtain ⟨_, _, hh⟩ := add_ok ht.2.2
   intro x hx
   rcases hh with ⟨_, e1, e2⟩ | ⟨_, _, e1, e2⟩
   ·have : x ∈ [keptC a c] := by
     have hx2 : x ∈ ln.addN a.N a.W (keptC a c) ++ ln.addW a.N a.W (keptC a c) := hx
     rw [e1, e2] at hx2
     simpa using hx2
    rw [List.mem_singleton.1 this]; exact hkw
   ·have : x ∈ a.N ++ a.W ++ [keptC a c] := by
     have hx2 : x ∈ ln.addN a.N a.W (keptC a c) ++ ln.addW a.N a.W (keptC a c) := hx
     rw [e1, e2, List.take_append_drop] at hx2
     exact hx2
    rcases List.mem_append.1 this with h1 | h1
    ·exact k.cmds x h1
    ·rw [List.mem_singleton.1 h1]; exact hkw
  split
  ·exact keep_begun k h _ hm rfl rfl rfl rfl rfl rfl rfl hl
  ·exact ⟨k.ph, k.f, k.c, k.start, k.master, k.cause, hl⟩
 ·exact k
theorem keep_all {m : Int} (hm : InR m) (fresh : Bool) : ∀ (L : List C) {a : Ax}, RightA a → KeepW a → (∀ x ∈ L, WideC x) → KeepW (allA m fresh L a)
 | [], _, _, k, _ => k
 | c :: L, _, h, k, hL => keep_all hm fresh L (given_right h c m fresh) (keep_given k h (hL c (List.mem_cons_self ..)) hm fresh) fun x hx => hL x (List.mem_cons_of_mem _ hx)
theorem keep_pre {a : Ax} (h : RightA a) (k : KeepW a) {i : In} (hi : WideI i) : KeepW (preA a i) := by
 have k0 : KeepW (overA a i) := ⟨k.ph, k.f, k.c, k.start, k.master, k.cause, k.cmds⟩
 exact keep_all hi.master _ _ (first_right (over_right h i) i) (keep_first k0 hi) hi.cmds
theorem keep_moved {a : Ax} (h : RightA a) (k : KeepW a) (i : In) : KeepW (pushed (movedA a i)) := by
 have e := moved_to a i
 have hw := wants_same a i
 have hh : InR (movedA a i).h.ph ∧ InR (movedA a i).h.f ∧ InR (movedA a i).h.c := by
  by_cases h2 : a.st = 2
  ·have hr := step_search h i (by rw [e.st]; exact h2)
   obtain ⟨r1, r2, r3⟩ := hr
   exact ⟨small (by omega) (by omega), small (by omega) (by omega), small (by omega) (by omega)⟩
  ·have : (movedA a i).h = a.h := by
    have hw : (wantsA a i).h = a.h := by
     unfold wantsA
     rw [if_neg h2]
     split
     ·rfl
     ·split <;> rfl
    unfold movedA
    split
    ·rfl
    ·exact hw
   rw [this]
   exact ⟨k.ph, k.f, k.c⟩
 have hr : (movedA a i).start = a.start ∧ (movedA a i).master = a.master ∧ (movedA a i).cause = a.cause ∧ (movedA a i).N = a.N ∧ (movedA a i).W = a.W := by
  obtain ⟨_, _, _, _, _, _, _, _, _, _, w1, w2, _, _, w3, w4, w5⟩ := hw
  unfold movedA
  split
  ·exact ⟨rfl, rfl, rfl, rfl, rfl⟩
  ·exact ⟨w3, w4, w5, w1, w2⟩
 obtain ⟨r1, r2, r3, r4, r5⟩ := hr
 refine ⟨hh.1, hh.2.1, hh.2.2, ?_, ?_, ?_, ?_⟩
 ·show InR (movedA a i).start; rw [r1]; exact k.start
 ·show InR (movedA a i).master; rw [r2]; exact k.master
 ·show InR (movedA a i).cause; rw [r3]; exact k.cause
 ·intro x hx
  have hx2 : x ∈ (movedA a i).N ++ (movedA a i).W := hx
  rw [r4, r5] at hx2
  exact k.cmds x hx2
theorem leaves_cmds {a : Ax} (k : KeepW a) : ∀ x ∈ (leaves a).N ++ (leaves a).W, WideC x := fun x hx => by
 have hx2 : x ∈ a.W.take 1 ++ a.W.drop 1 := hx
 rw [List.take_append_drop] at hx2
 exact k.cmds x (List.mem_append_right _ hx2)
theorem keep_ended {a : Ax} (h : RightA a) (k : KeepW a) (e : Int) {m : Int} (hm : InR m) : KeepW (endedA a e m) := by
 unfold endedA
 split
 ·exact ⟨k.ph, k.f, k.c, k.start, k.master, k.cause, leaves_cmds k⟩
 ·exact keep_begun k h _ hm rfl rfl rfl rfl rfl rfl rfl (leaves_cmds k)
theorem keep_last {a : Ax} (h : RightA a) (k : KeepW a) (passed : Bool) {i : In} (hi : WideI i) : KeepW (lastA a passed i) := by
 unfold lastA
 split
 ·exact keep_ended h k _ hi.master
 ·split
  ·split
   ·exact ⟨k.ph, k.f, k.c, k.start, k.master, k.cause, leaves_cmds k⟩
   ·split
    ·exact ⟨k.ph, k.f, k.c, k.start, k.master, k.cause, k.cmds⟩
    ·exact k
  ·split
   ·rename_i h2
    split
    ·split
     ·unfold endedA
      obtain ⟨_, hW⟩ := home_line h h2.1
      have hf : (found a).W = a.W := rfl
      rw [hf, hW]
      exact ⟨k.ph, k.f, k.c, k.start, k.master, k.cause, fun x hx => by
       have hx2 : x ∈ (leaves a).N ++ (leaves a).W := hx
       exact leaves_cmds k x hx2⟩
     ·exact ⟨k.ph, k.f, k.c, k.start, k.master, k.cause, k.cmds⟩
    ·exact keep_failed k (small (by omega) (by omega))
   ·split
    ·exact keep_failed k (small (by omega) (by omega))
    ·exact k
theorem keep_step {a : Ax} (h : RightA a) (k : KeepW a) {i : In} (hi : WideI i) : KeepW (stepA a i) :=
 keep_last (pushed_right (pre_right h i) i) (keep_moved (pre_right h i) (keep_pre h k hi) i) _ hi
structure GoodA (a : Ax) : Prop where
 right : RightA a
 keep : KeepW a
theorem GoodA.wide {a : Ax} (h : GoodA a) : WideA a := wide_of h.right h.keep
theorem GoodA.step {a : Ax} (h : GoodA a) {i : In} (hi : WideI i) : GoodA (stepA a i) := ⟨step_right h.right i, keep_step h.right h.keep hi⟩
end Go.Proofs.YtijlccblabadaaaGreat.ax
end
section
namespace Go.Proofs.YtijlccblabadaaaGreat.ax
open Go.Proofs.YtijlccblabadaaaGreat.ln (C)
open Go.Proofs.YtijlccblabadaaaGreat.hm (H)
open Go.Proofs.YtijlccblabadaaaGreat.ed (nxS nxB)
set_option linter.unusedVariables false
theorem new_right {l : Lm} {win homeAt fast creep : Int} (h : MadeP l win homeAt fast creep) : RightA (newA l win homeAt fast creep) := by
 have hl := h.1
 have hw := h.2.1
 exact { made := h, st0 := by show (0 : Int) ≤ 0; omega, st7 := by show (0 : Int) ≤ 7; omega, len := full_len hw 0, ov0 := by show (0 : Int) ≤ 100; omega, ov1 := by show (100 : Int) ≤ 100; omega, far := ⟨by show (-288230376151711744 : Int) ≤ 0; omega, by show (0 : Int) ≤ 288230376151711744; omega⟩
         safe := stand_safe (bounds_right (a := newA l win homeAt fast creep) hl) (by show (-1099511627776 : Int) ≤ 0; omega) (by show (0 : Int) ≤ 1099511627776; omega), line := right_none, lined := ⟨rfl, .inl (by show (0 : Int) < 2; omega)⟩, search := fun h2 => absurd h2 (by show ¬ (0 : Int) = 2; omega)
         rows := fun x hx => by rw [full_rows hx]; omega
         newest := fun x hx => full_head hx, near := near_full _ _ }
theorem new_keep {l : Lm} {win homeAt fast creep : Int} : KeepW (newA l win homeAt fast creep) :=
 have z : InR 0 := ⟨by omega, by omega⟩
 ⟨z, z, z, z, z, z, fun x hx => by cases hx⟩
theorem new_good {l : Lm} {win homeAt fast creep : Int} (h : MadeP l win homeAt fast creep) : GoodA (newA l win homeAt fast creep) := ⟨new_right h, new_keep⟩
theorem taken_fly {a : Ax} (h : RightA a) (h1 : a.st = 1) {id way speed : Int} {i : In} (hi : GoI i) (hc : i.cmds = [relC id way speed]) (hs1 : 1 ≤ speed) (hs2 : speed ≤ a.l.V) (hp1 : (bounds a).lo ≤ a.p + way) (hp2 : a.p + way ≤ (bounds a).hi) :
  Fly (preA a i) ⟨id, 1, a.p + way, speed, 0, 0, 0⟩ ∧ preR a i = [(id, 1)] ∧ (preA a i).p = a.p ∧ (preA a i).v = a.v ∧ bounds (preA a i) = bounds a := by
 have ho := over_right h i
 obtain ⟨hN, hW⟩ := h.none (.inr (.inl h1))
 have hov : (overA a i).ov = 100 := by show b.clamp i.ov 0 100 = 100; rw [hi.ov]; rfl
 have hco : causeOf (overA a i) i = 0 := by
  unfold causeOf
  rw [if_neg (show ¬ (overA a i).st = 0 by show ¬ a.st = 0; omega), if_neg (by rw [hi.cause]; show ¬ ((0 : Int) ≠ 0 ∨ a.st = 7); omega), if_neg (by rw [hi.op]; simp), if_neg (by rw [hi.plus, hi.minus]; simp)]
 have e1 : firstA (overA a i) i = overA a i := by
  unfold firstA
  rw [if_neg (fun hh => hh.1 hco), if_neg (show ¬ (overA a i).st = 7 by show ¬ a.st = 7; omega), if_neg (by rw [hi.power]; simp), if_neg (fun hh => by have : a.st = 0 := hh.1; omega)]
 have e2 : firstR (overA a i) i = [] := by
  unfold firstR
  rw [if_neg (fun hh => hh.1 hco), if_neg (show ¬ (overA a i).st = 7 by show ¬ a.st = 7; omega), if_neg (by rw [hi.power]; simp)]
 have e3 : firstF (overA a i) i = false := by
  unfold firstF
  rw [if_neg (fun hh => hh.1 hco), if_neg (show ¬ (overA a i).st = 7 by show ¬ a.st = 7; omega), if_neg (by rw [hi.power]; simp)]
  exact decide_eq_false fun hh => by have : a.st = 0 := hh.1; omega
 have ep : preA a i = givenA (overA a i) (relC id way speed) i.master false := by unfold preA; rw [e1, e3, hc]; rfl
 have er : preR a i = givenR (overA a i) (relC id way speed) false := by unfold preR; rw [e1, e2, e3, hc]; show [] ++ (givenR _ _ _ ++ []) = _; rw [List.append_nil]; rfl
 have hpl : placeOf (overA a i) (relC id way speed) = a.p + way := by
  unfold placeOf fromOf
  rw [if_neg (by unfold relC; dsimp only; omega), show (overA a i).N = [] from hN]; rfl
 have hk : keptC (overA a i) (relC id way speed) = ⟨id, 1, a.p + way, speed, 0, 0, 0⟩ := by
  unfold keptC
  rw [if_pos (show placed (relC id way speed) by unfold placed relC; dsimp only; omega), hpl]; rfl
 have hb := bounds_right h.limits
 have ht : TakenP (overA a i) (relC id way speed) false := by
  have hsp : (relC id way speed).spd = speed := rfl
  refine ⟨⟨⟨⟨by show (0 : Int) ≤ 0; omega, by show (0 : Int) ≤ 5; omega⟩, fun q => absurd q (by show ¬ (0 : Int) < 0; omega)⟩, .inl ⟨by unfold placed relC; dsimp only; omega, .inl h1, .inr ?_, by rw [hsp]; omega, by rw [hsp]; show speed ≤ a.l.V; omega, fun q => absurd q (by show ¬ (2 : Int) = 1; omega), ?_, ?_⟩⟩, rfl, ?_⟩
  ·rw [hpl]; have := hb.2.2.2.2.2.2; unfold InR; omega
  ·rw [hpl]; show (bounds a).lo ≤ a.p + way; omega
  ·rw [hpl]; show a.p + way ≤ (bounds a).hi; omega
  ·rw [hk]
   unfold ln.addE
   rw [if_pos ⟨ho.line, by show (0 : Int) ≤ 0; omega, by show (0 : Int) ≤ 5; omega⟩, if_pos rfl]
 have hgr := given_right ho (relC id way speed) i.master false
 obtain ⟨_, _, hadd⟩ := add_ok ht.2.2
 rw [hk] at hadd
 have haN : ln.addN (overA a i).N (overA a i).W ⟨id, 1, a.p + way, speed, 0, 0, 0⟩ = [⟨id, 1, a.p + way, speed, 0, 0, 0⟩] ∧ ln.addW (overA a i).N (overA a i).W ⟨id, 1, a.p + way, speed, 0, 0, 0⟩ = [] := by
  rcases hadd with ⟨_, q1, q2⟩ | ⟨q, _⟩
  ·exact ⟨q1, q2⟩
  ·exact absurd rfl q
 have haI : ln.addI (overA a i).N (overA a i).W ⟨id, 1, a.p + way, speed, 0, 0, 0⟩ = [] := by
  unfold ln.addI
  rw [show (overA a i).N = [] from hN, show (overA a i).W = [] from hW]
  split
  ·split <;> rfl
  ·rfl
 have eg : givenA (overA a i) (relC id way speed) i.master false = begun (lineOf (overA a i) (relC id way speed)) ⟨id, 1, a.p + way, speed, 0, 0, 0⟩ i.master := by
  unfold givenA
  rw [if_pos ht, hk, if_pos haN.2]
 have egr : givenR (overA a i) (relC id way speed) false = [(id, 1)] := by
  unfold givenR
  rw [if_pos ht, hk, if_pos haN.2, haI]; rfl
 have eN : (givenA (overA a i) (relC id way speed) i.master false).N = [⟨id, 1, a.p + way, speed, 0, 0, 0⟩] := by
  rw [eg]; show ln.addN _ _ (keptC _ _) = _; rw [hk]; exact haN.1
 have eW : (givenA (overA a i) (relC id way speed) i.master false).W = [] := by
  rw [eg]; show ln.addW _ _ (keptC _ _) = _; rw [hk]; exact haN.2
 have est : (givenA (overA a i) (relC id way speed) i.master false).st = 4 := by
  rw [eg]; show nxS a.st (evOf 1) = 4; rw [h1]; rfl
 have eov : (givenA (overA a i) (relC id way speed) i.master false).ov = 100 := by rw [eg]; exact hov
 obtain ⟨g1, g2, g3, g4, g5⟩ := given_same (overA a i) (relC id way speed) i.master false
 rw [ep, er, egr]
 exact ⟨⟨hgr, est, eN, eW, rfl, eov⟩, rfl, g4, g5, by rw [eg]; rfl⟩
def fixL : Lm := ⟨5, 2, 2, -100, 100⟩
def fixI1 : In := ⟨true, true, 0, 0, false, false, false, false, false, 100, 0, []⟩
def fixI2 : In := ⟨true, true, 0, 0, false, false, false, false, false, 100, 0, [relC 7 20 5]⟩
def fixA0 : Ax := newA fixL 1 0 5 1
def fixA1 : Ax := ⟨1, fixL, 1, 0, 5, 1, 0, 0, [0], 0, [], [], false, hm.zeroH, 100, 0, 0, 0, false⟩
theorem fix_made : MadeP fixL 1 0 5 1 := by decide
theorem fix_pre : preA fixA0 fixI1 = fixA1 ∧ preR fixA0 fixI1 = [] := ⟨rfl, rfl⟩
theorem fix_right1 : RightA fixA1 := by rw [← fix_pre.1]; exact pre_right (new_right fix_made) _
theorem fix_one : stepA fixA0 fixI1 = fixA1 := by
 have h := fix_right1
 have e0 : gn.stepV (bounds fixA1) 0 0 0 = 0 := gn.stand (bounds_right h.limits) h.safe
 have em : movedA fixA1 fixI1 = fixA1 := by
  rw [moved_none (by show ¬ (1 : Int) = 0; omega) (by show ¬ (1 : Int) = 2; omega) rfl]
  show { fixA1 with p := 0 + gn.stepV (bounds fixA1) 0 0 0, v := gn.stepV (bounds fixA1) 0 0 0 } = fixA1
  rw [e0]; rfl
 unfold stepA
 rw [fix_pre.1, em, (last_same (by show ¬ (1 : Int) = 2; omega) (by show ¬ (1 : Int) = 3; omega) (by show ¬ (1 : Int) = 4; omega) _ _).1]
 rfl
theorem fix_two : (stepA fixA1 fixI2).st = 4 ∧ (stepA fixA1 fixI2).p = 2 ∧ stepR fixA1 fixI2 = [(7, 1)] := by
 have h := fix_right1
 obtain ⟨hf, hr, hp, hv, hb⟩ := taken_fly (id := 7) (way := 20) (speed := 5) (i := fixI2) h rfl ⟨rfl, rfl, rfl, rfl, rfl, rfl⟩ rfl (by omega) (by show (5 : Int) ≤ 5; omega) (by show (-1099511627776 : Int) ≤ 0 + 20; omega) (by show (0 : Int) + 20 ≤ 1099511627776; omega)
 have hp0 : (preA fixA1 fixI2).p = 0 := hp
 have hv0 : (preA fixA1 fixI2).v = 0 := hv
 have hbb : bounds (preA fixA1 fixI2) = ⟨5, 2, 2, -1099511627776, 1099511627776⟩ := hb
 have e2 : gn.stepV ⟨5, 2, 2, -1099511627776, 1099511627776⟩ 0 0 (gn.toV ⟨5, 2, 2, -1099511627776, 1099511627776⟩ 0 0 20 5) = 2 := by
  have r1 := gn.reach_ge (s := 20) (d := 2) (x := 2) (by omega) (by omega) (by omega) (by decide)
  have r2 := gn.reach_ge (s := 1099511627776) (d := 2) (x := 2) (by omega) (by omega) (by omega) (by decide)
  have r3 := gn.reach_in (s := 1099511627776) (d := 2) (by omega) (by omega)
  have et : gn.toV ⟨5, 2, 2, -1099511627776, 1099511627776⟩ 0 0 20 5 = min 5 (b.reachV 20 2) := by
   unfold gn.toV
   rw [if_pos (by decide)]
   rfl
  have eh : gn.mayHi ⟨5, 2, 2, -1099511627776, 1099511627776⟩ 0 0 = 2 := by
   unfold gn.mayHi gn.hiOf
   rw [if_neg (by omega)]
   show max (b.nextV 0 2) (min (min (0 + 2) 5) (b.reachV (1099511627776 - 0) 2)) = 2
   rw [show (1099511627776 : Int) - 0 = 1099511627776 by omega, show b.nextV 0 2 = 0 by decide]
   omega
  have el : gn.mayLo ⟨5, 2, 2, -1099511627776, 1099511627776⟩ 0 0 ≤ 0 := by
   unfold gn.mayLo gn.hiOf
   rw [if_neg (by omega)]
   show -max (b.nextV (-0) 2) _ ≤ 0
   rw [show b.nextV (-0) 2 = 0 by decide]
   omega
  unfold gn.stepV
  rw [et, eh]
  unfold b.clamp
  omega
 have em := fly_moved hf fixI2
 rw [hp0, hv0, hbb] at em
 have emp : (movedA (preA fixA1 fixI2) fixI2).p = 2 := by rw [em]; show 0 + gn.stepV _ 0 0 (gn.toV _ 0 0 20 5) = 2; rw [e2]; rfl
 have emv : (movedA (preA fixA1 fixI2) fixI2).v = 2 := by rw [em]; exact e2
 have hgf : Fly (pushed (movedA (preA fixA1 fixI2) fixI2)) ⟨7, 1, 0 + 20, 5, 0, 0, 0⟩ := by
  refine ⟨pushed_right hf.right fixI2, ?_, ?_, ?_, rfl, ?_⟩
  ·show (movedA _ _).st = 4; rw [(moved_to _ _).st]; exact hf.st
  ·show (movedA _ _).N = _; rw [(moved_to _ _).N]; exact hf.N
  ·show (movedA _ _).W = _; rw [(moved_to _ _).W]; exact hf.W
  ·show (movedA _ _).ov = 100; rw [(moved_to _ _).ov]; exact hf.ov
 unfold stepA stepR
 rw [fly_by hf fixI2, hr]
 rcases fly_last hgf fixI2 with ⟨e1, e2, _⟩ | ⟨_, _, e3, e4, _⟩
 ·rw [e1, e2]
  exact ⟨hgf.st, emp, rfl⟩
 ·exfalso
  have h1 : (lastA (pushed (movedA (preA fixA1 fixI2) fixI2)) false fixI2).p = 20 := e3
  by_cases hs : StillP (pushed (movedA (preA fixA1 fixI2) fixI2)) ∧ (pushed (movedA (preA fixA1 fixI2) fixI2)).p = 20
  ·have : (movedA (preA fixA1 fixI2) fixI2).p = 20 := hs.2
   omega
  ·rcases fly_last hgf fixI2 with ⟨e1, _, _⟩ | ⟨_, _, _, _, e5, e6, e7⟩
   ·rw [e1] at h1
    have : (movedA (preA fixA1 fixI2) fixI2).p = 20 := h1
    omega
   ·have hne : ¬ MoveEnds (pushed (movedA (preA fixA1 fixI2) fixI2)) false := fun he => by
     rcases he.2.2 with q | ⟨q1, q2⟩
     ·cases q
     ·rw [hgf.N] at q2
      rcases q2 with q2 | q2
      ·exact q2 rfl
      ·exact hs ⟨q1, q2.symm⟩
    rw [show lastA (pushed (movedA (preA fixA1 fixI2) fixI2)) false fixI2 = pushed (movedA (preA fixA1 fixI2) fixI2) by
     unfold lastA
     rw [if_neg hne, if_neg (fun q => by have := hgf.st; have := q.1; omega), if_neg (fun q => by have := hgf.st; have := q.1; omega), if_neg (fun q => by have := hgf.st; have := q.1; omega)]] at h1
    have : (movedA (preA fixA1 fixI2) fixI2).p = 20 := h1
    omega
end Go.Proofs.YtijlccblabadaaaGreat.ax
end
section
namespace Go.Proofs.YtijlccblabadaaaGreat.ax
set_option maxRecDepth 100000
open Go.ChangeShapes Go.WideShapes Go.ChangeAt Go.RowKit Go.Proofs.YtijlccblabadaaaGreat.k Go.Proofs.YtijlccblabadaaaGreat.rr
open Go.Proofs.YtijlccblabadaaaGreat.ln (C RdC RdI)
set_option linter.unusedVariables false
noncomputable def rightB (a : Ax) : Bool := @decide (RightA a) (Classical.propDecidable _)
theorem rightB_yes {a : Ax} (h : RightA a) : rightB a = true := @decide_eq_true _ (Classical.propDecidable _) h
theorem rightB_no {a : Ax} (h : ¬ RightA a) : rightB a = false := @decide_eq_false _ (Classical.propDecidable _) h
structure WideL (l : Lm) : Prop where
 V : InR l.V
 A : InR l.A
 D : InR l.D
 lo : InR l.lo
 hi : InR l.hi
def zeroA : Ax := ⟨0, ⟨0, 0, 0, 0, 0⟩, 0, 0, 0, 0, 0, 0, [], 0, [], [], false, hm.zeroH, 0, 0, 0, 0, false⟩
def newOf (l : Lm) (win homeAt fast creep : Int) : Ax := if MadeP l win homeAt fast creep then newA l win homeAt fast creep else zeroA
def newE (l : Lm) (win homeAt fast creep : Int) : Int := if MadeP l win homeAt fast creep then 0 else 1
def GotN (l : Lm) (win homeAt fast creep : Int) (w : World) (e : Ending) (w' : World) : Prop :=
 ∃ S N W : Sl, e = .returned (.tuple #[axV (newOf l win homeAt fast creep) S N W, .int .i64 (newE l win homeAt fast creep)]) ∧ RdA w' w'.heap.size (newOf l win homeAt fast creep) S N W ∧ Below w.heap.size w w'
def rpC (r : Rp) : List Value := [.int .i64 r.1, .int .i64 r.2]
theorem rpC_len (r : Rp) : (rpC r).length = 2 := rfl
abbrev RdR := Rd rpC 2
def Off (g : Nat) (s : Sl) : Prop := 0 < s.n → ∀ b o x, s.A = some ⟨b, o, x⟩ → b ≠ g
theorem off_of {α : Type} {enc : α → List Value} {z : Nat} {w : World} {B g : Nat} {s : Sl} {L : List α} (h : Rd enc z w B s.A s.n s.c L) (hg : B ≤ g) : Off g s := fun hn b o x e => by
 obtain ⟨b', o', e', hb, _⟩ := h.2.2.2.2 hn
 rw [e'] at e
 injection e with e
 injection e with e1 _ _
 omega
structure OffA (g : Nat) (S N W : Sl) : Prop where
 S : Off g S
 N : Off g N
 W : Off g W
theorem RdA.off {w : World} {B g : Nat} {a : Ax} {S N W : Sl} (h : RdA w B a S N W) (hg : B ≤ g) : OffA g S N W := ⟨off_of h.S hg, off_of h.N hg, off_of h.W hg⟩
def GotS (a : Ax) (R : List Rp) (S0 N0 W0 L0 : Sl) (w : World) (e : Ending) (w' : World) : Prop :=
 ∃ S N W L : Sl, e = .returned (.tuple #[axV a S N W, .slice L.A L.n L.c]) ∧ RdA w' w'.heap.size a S N W ∧ RdR w' w'.heap.size L.A L.n L.c R ∧ Below w.heap.size w w' ∧
  ∀ g, g < w.heap.size → OffA g S0 N0 W0 → Off g L0 → OffA g S N W ∧ Off g L
theorem RightA.short {a : Ax} (h : RightA a) : a.N.length ≤ 1 ∧ a.W.length ≤ 4 ∧ a.sm.length ≤ 16 := by
 have h1 := h.line
 have h2 := h.len
 have h3 := h.made.2.2.1
 unfold ln.RightL at h1
 omega
end Go.Proofs.YtijlccblabadaaaGreat.ax
end
section
namespace Go.Proofs.YtijlccblabadaaaGreat.ax
set_option maxRecDepth 100000
open Go.ChangeShapes Go.WideShapes Go.ChangeAt Go.RowKit Go.Proofs.YtijlccblabadaaaGreat.k Go.Proofs.YtijlccblabadaaaGreat.rr
set_option linter.unusedVariables false
theorem axA_ones (a : Ax) (S N W : Sl) : (axA a S N W).all (·.oneCell') = true := all_oneCell_toArray (cs := axC a S N W) (by
 intro v hv
 simp only [axC, List.mem_cons, List.not_mem_nil, or_false] at hv
 rcases hv with rfl | rfl | rfl | rfl | rfl | rfl | rfl | rfl | rfl | rfl | rfl | rfl | rfl | rfl | rfl | rfl | rfl | rfl | rfl | rfl | rfl | rfl | rfl | rfl | rfl | rfl <;> rfl)
abbrev zAx : Array Value := #[.int .i64 0, .int .i64 0, .int .i64 0, .int .i64 0, .int .i64 0, .int .i64 0, .int .i64 0, .int .i64 0, .int .i64 0, .int .i64 0, .int .i64 0, .int .i64 0, .slice none 0 0, .int .i64 0, .slice none 0 0, .slice none 0 0, .bool false, .int .i64 0, .int .i64 0, .int .i64 0, .bool false, .int .i64 0, .int .i64 0, .int .i64 0, .int .i64 0, .bool false]
theorem there_new (w : World) (zs : Array Value) (t : TypeId) (n : Nat) (h : zs.toList.length = n) : (w.alloc (.cells zs t)).there w.heap.size 0 n := k.there_of (k.Box.new w zs t) h
theorem put_new (w : World) (zs : Array Value) (t : TypeId) (us : List Value) (h : us.length = zs.toList.length) :
  ∃ W, (w.alloc (.cells zs t)).setCells w.heap.size 0 us = W ∧ k.Box W w.heap.size 0 us ∧ Below w.heap.size w W ∧ w.heap.size < W.heap.size := by
 obtain ⟨W, h1, h2, h3, h4, _⟩ := k.stored (us := us) (k.Box.new w zs t) h
 refine ⟨W, h1, h2, ((Below.refl w.heap.size w).alloc (Nat.le_refl _) _).trans (h4 _ (Nat.le_refl _)), ?_⟩
 rw [h3]; simp
theorem put_old {w : World} {g : Nat} {us vs : List Value} (hb : k.Box w g 0 vs) (h : us.length = vs.length) :
  ∃ W, w.setCells g 0 us = W ∧ k.Box W g 0 us ∧ Below g w W ∧ (∀ (g' : Nat) (cs : List Value), g ≠ g' → k.Box w g' 0 cs → k.Box W g' 0 cs) ∧ W.heap.size = w.heap.size := by
 obtain ⟨W, h1, h2, h3, h4, _⟩ := k.stored (us := us) hb h
 exact ⟨W, h1, h2, h4 _ (Nat.le_refl _), fun g' cs hne hc => k.aside_stored h1 hne hc, h3⟩
abbrev inL (i : In) (L : Sl) : List Value := [.bool i.power, .bool i.op, .int .i64 i.actual, .int .i64 i.cause, .bool i.plus, .bool i.minus, .bool i.home, .bool i.reset, .bool i.release, .int .i64 i.ov, .int .i64 i.master, .slice L.A L.n L.c]
abbrev inA (i : In) (L : Sl) : Array Value := #[.bool i.power, .bool i.op, .int .i64 i.actual, .int .i64 i.cause, .bool i.plus, .bool i.minus, .bool i.home, .bool i.reset, .bool i.release, .int .i64 i.ov, .int .i64 i.master, .slice L.A L.n L.c]
abbrev zIn : Array Value := #[.bool false, .bool false, .int .i64 0, .int .i64 0, .bool false, .bool false, .bool false, .bool false, .bool false, .int .i64 0, .int .i64 0, .slice none 0 0]
theorem inA_ones (i : In) (L : Sl) : (inA i L).all (·.oneCell') = true := all_oneCell_toArray (cs := inL i L) (by
 intro v hv
 simp only [List.mem_cons, List.not_mem_nil, or_false] at hv
 rcases hv with rfl | rfl | rfl | rfl | rfl | rfl | rfl | rfl | rfl | rfl | rfl | rfl <;> rfl)
theorem rd_aside {α : Type} {enc : α → List Value} {z : Nat} {w : World} {B g : Nat} {s : Sl} {L : List α} (h : Rd enc z w B s.A s.n s.c L) (ho : Off g s) (us : List Value) : Rd enc z (w.setCells g 0 us) B s.A s.n s.c L :=
 ⟨h.1, h.2.1, h.2.2.1, h.2.2.2.1, fun hn => by
  obtain ⟨b, off, e, hB, hc⟩ := h.2.2.2.2 hn
  exact ⟨b, off, e, hB, fun i x hx => World.rangeAt_setCells_apart (hc i x hx) g 0 us (.inl (ho hn _ _ _ e))⟩⟩
theorem RdA.aside {w : World} {B g : Nat} {a : Ax} {S N W : Sl} (h : RdA w B a S N W) (ho : OffA g S N W) (us : List Value) : RdA (w.setCells g 0 us) B a S N W := ⟨rd_aside h.S ho.S us, rd_aside h.N ho.N us, rd_aside h.W ho.W us⟩
section
variable {ops : Array Oper} {rest : List Oper} {op : Oper} {a : Act} {w : World} {Q : Exit → Act → World → Prop}
set_option maxRecDepth 100000 in
theorem m_ax_load {g : Nat} {b : Ax} {S N W : Sl} (hb : k.Box w g 0 (axC b S N W)) (t : Nat) (ho : op.op = .load 35 (.tmp t)) (hw : Region.wanted op (yielded ops a.tmps) = true) (hx : a.eval (.tmp t) = .pointer (some ⟨g, 0, none⟩))
  (h : wpList Tryz.prog ops Q rest (a.put op.dst (axV b S N W)) w) : wpList Tryz.prog ops Q (op :: rest) a w :=
 k.load_wanted hw 35 (.tmp t) ho g 0 hx (axC b S N W) _ hb.range rfl rfl (by kernel_rfl) h
set_option maxRecDepth 100000 in
theorem m_in_load {g : Nat} {i : In} {L : Sl} (hb : k.Box w g 0 (inL i L)) (t : Nat) (ho : op.op = .load 46 (.tmp t)) (hw : Region.wanted op (yielded ops a.tmps) = true) (hx : a.eval (.tmp t) = .pointer (some ⟨g, 0, none⟩))
  (h : wpList Tryz.prog ops Q rest (a.put op.dst (inV i L)) w) : wpList Tryz.prog ops Q (op :: rest) a w :=
 k.load_wanted hw 46 (.tmp t) ho g 0 hx (inL i L) _ hb.range rfl rfl (by kernel_rfl) h
set_option maxRecDepth 100000 in
theorem m_ax_new (b : Ax) (S N W : Sl) (t u : Nat) (ho : op.op = .store 35 (.tmp t) (.tmp u)) (hg : op.guard = none) (hd : op.dst = none) (hx : a.eval (.tmp t) = .pointer (some ⟨w.heap.size, 0, none⟩)) (hy : a.eval (.tmp u) = axV b S N W)
  (h : ∀ w', k.Box w' w.heap.size 0 (axC b S N W) → Below w.heap.size w w' → w.heap.size < w'.heap.size → wpList Tryz.prog ops Q rest a w') : wpList Tryz.prog ops Q (op :: rest) a (w.alloc (.cells zAx 35)) := by
 obtain ⟨w2, e2, x1, h2, z2⟩ := put_new w zAx 35 (axC b S N W) rfl
 refine wpList_store_mid hg 35 (.tmp t) (.tmp u) ho w.heap.size 0 (axA b S N W) hx hy (there_new _ _ _ _ rfl) (by kernel_rfl) (axA_ones _ _ _ _) ?_
 rw [hd]
 show wpList _ _ _ _ a (World.setCells _ _ _ (axC b S N W))
 rw [e2]
 exact h w2 x1 h2 z2
set_option maxRecDepth 100000 in
theorem m_in_new (i : In) (L : Sl) (t u : Nat) (ho : op.op = .store 46 (.tmp t) (.tmp u)) (hg : op.guard = none) (hd : op.dst = none) (hx : a.eval (.tmp t) = .pointer (some ⟨w.heap.size, 0, none⟩)) (hy : a.eval (.tmp u) = inV i L)
  (h : ∀ w', k.Box w' w.heap.size 0 (inL i L) → Below w.heap.size w w' → w.heap.size < w'.heap.size → wpList Tryz.prog ops Q rest a w') : wpList Tryz.prog ops Q (op :: rest) a (w.alloc (.cells zIn 46)) := by
 obtain ⟨w2, e2, x1, h2, z2⟩ := put_new w zIn 46 (inL i L) rfl
 refine wpList_store_mid hg 46 (.tmp t) (.tmp u) ho w.heap.size 0 (inA i L) hx hy (there_new _ _ _ _ rfl) (by kernel_rfl) (inA_ones _ _) ?_
 rw [hd]
 show wpList _ _ _ _ a (World.setCells _ _ _ (inL i L))
 rw [e2]
 exact h w2 x1 h2 z2
set_option maxRecDepth 100000 in
theorem m_ax_old {g : Nat} {b0 : Ax} {S0 N0 W0 : Sl} (hb : k.Box w g 0 (axC b0 S0 N0 W0)) (b : Ax) (S N W : Sl) (t u : Nat) (ho : op.op = .store 35 (.tmp t) (.tmp u)) (hg : op.guard = none) (hd : op.dst = none) (hx : a.eval (.tmp t) = .pointer (some ⟨g, 0, none⟩)) (hy : a.eval (.tmp u) = axV b S N W)
  (h : ∀ w', w.setCells g 0 (axC b S N W) = w' → k.Box w' g 0 (axC b S N W) → Below g w w' → (∀ (g' : Nat) (cs : List Value), g ≠ g' → k.Box w g' 0 cs → k.Box w' g' 0 cs) → w'.heap.size = w.heap.size → wpList Tryz.prog ops Q rest a w') : wpList Tryz.prog ops Q (op :: rest) a w := by
 obtain ⟨w2, e2, x1, h2, h3, h4⟩ := put_old (us := axC b S N W) hb rfl
 refine wpList_store_mid hg 35 (.tmp t) (.tmp u) ho g 0 (axA b S N W) hx hy (k.there_of hb rfl) (by kernel_rfl) (axA_ones _ _ _ _) ?_
 rw [hd]
 show wpList _ _ _ _ a (World.setCells _ _ _ (axC b S N W))
 rw [e2]
 exact h w2 e2 x1 h2 h3 h4
set_option maxRecDepth 100000 in
theorem m_y_ax {w0 : World} {g : Nat} {b : Ax} {S N W : Sl} (hb : k.Box w0 g 0 (axC b S N W)) (hg : g < w0.heap.size) (t : Nat) (ho : op.op = .load 35 (.tmp t)) (hw : Region.wanted op (yielded ops a.tmps) = true) (hx : a.eval (.tmp t) = .pointer (some ⟨g, 0, none⟩)) :
  YieldsIf Tryz.prog ops (fun w' => Below w0.heap.size w0 w') op (axV b S N W) a :=
 yieldsIf_load_mid hw 35 (.tmp t) ho g 0 hx (axC b S N W) _ (fun _ hb' => range_below hb.range hb' hg) rfl rfl (by kernel_rfl)
set_option maxRecDepth 100000 in
theorem m_y_in {w0 : World} {g o : Nat} {i : In} {L : Sl} (hr : w0.rangeAt g o (inL i L)) (hg : g < w0.heap.size) (t : Nat) (ho : op.op = .load 46 (.tmp t)) (hw : Region.wanted op (yielded ops a.tmps) = true) (hx : a.eval (.tmp t) = .pointer (some ⟨g, o, none⟩)) :
  YieldsIf Tryz.prog ops (fun w' => Below w0.heap.size w0 w') op (inV i L) a :=
 yieldsIf_load_mid hw 46 (.tmp t) ho g o hx (inL i L) _ (fun _ hb' => range_below hr hb' hg) rfl rfl (by kernel_rfl)
set_option maxRecDepth 100000 in
theorem m_w_new {K : Act → World → Prop} (b : Ax) (S N W : Sl) (t u : Nat) (ho : op.op = .store 35 (.tmp t) (.tmp u)) (hd : op.dst = none) (hx : a.eval (.tmp t) = .pointer (some ⟨w.heap.size, 0, none⟩)) (hy : a.eval (.tmp u) = axV b S N W)
  (h : ∀ w', k.Box w' w.heap.size 0 (axC b S N W) → Below w.heap.size w w' → w.heap.size < w'.heap.size → K a w') : op.wp Tryz.prog a (w.alloc (.cells zAx 35)) K Q := by
 obtain ⟨w2, e2, x1, h2, z2⟩ := put_new w zAx 35 (axC b S N W) rfl
 refine wp_store_mid 35 (.tmp t) (.tmp u) ho w.heap.size 0 (axA b S N W) hx hy (there_new _ _ _ _ rfl) (by kernel_rfl) (axA_ones _ _ _ _) ?_
 rw [hd]
 show K a (World.setCells _ _ _ (axC b S N W))
 rw [e2]
 exact h w2 x1 h2 z2
set_option maxRecDepth 100000 in
theorem m_w_old {K : Act → World → Prop} {g : Nat} {vs : List Value} (hb : k.Box w g 0 vs) (hl : vs.length = 26) (b : Ax) (S N W : Sl) (t u : Nat) (ho : op.op = .store 35 (.tmp t) (.tmp u)) (hd : op.dst = none) (hx : a.eval (.tmp t) = .pointer (some ⟨g, 0, none⟩)) (hy : a.eval (.tmp u) = axV b S N W)
  (h : ∀ w', w.setCells g 0 (axC b S N W) = w' → k.Box w' g 0 (axC b S N W) → Below g w w' → (∀ (g' : Nat) (cs : List Value), g ≠ g' → k.Box w g' 0 cs → k.Box w' g' 0 cs) → w'.heap.size = w.heap.size → K a w') : op.wp Tryz.prog a w K Q := by
 obtain ⟨w2, e2, x1, h2, h3, h4⟩ := put_old (us := axC b S N W) hb (by rw [hl]; rfl)
 refine wp_store_mid 35 (.tmp t) (.tmp u) ho g 0 (axA b S N W) hx hy (k.there_of hb (by rw [hl]; rfl)) (by kernel_rfl) (axA_ones _ _ _ _) ?_
 rw [hd]
 show K a (World.setCells _ _ _ (axC b S N W))
 rw [e2]
 exact h w2 e2 x1 h2 h3 h4
end
theorem RdA.past {w w' : World} {a : Ax} {S N W : Sl} (h : RdA w w.heap.size a S N W) (hb : Below w.heap.size w w') : RdA w' w'.heap.size a S N W := (h.below hb).more hb.size
end Go.Proofs.YtijlccblabadaaaGreat.ax
end
section
namespace Go.Proofs.YtijlccblabadaaaGreat.cx
open Go.ChangeShapes Go.WideShapes Go.ChangeAt Go.RowKit Go.Proofs.YtijlccblabadaaaGreat.k Go.Proofs.YtijlccblabadaaaGreat.rr Go.Proofs.YtijlccblabadaaaGreat.ax
open Go.Proofs.YtijlccblabadaaaGreat.ln (C RdC RdI iC cC cV)
set_option linter.unusedVariables false
set_option maxRecDepth 100000
abbrev OwR := Ow rpC 2 58
abbrev cyC (a : Ax) (S N W : Sl) (i : In) (L T : Sl) (fr pa : Bool) : List Value := [.int .i64 a.st, .int .i64 a.l.V, .int .i64 a.l.A, .int .i64 a.l.D, .int .i64 a.l.lo, .int .i64 a.l.hi, .int .i64 a.win, .int .i64 a.homeAt, .int .i64 a.fast, .int .i64 a.creep, .int .i64 a.p, .int .i64 a.v, .slice S.A S.n S.c, .int .i64 a.off, .slice N.A N.n N.c, .slice W.A W.n W.c, .bool a.homed, .int .i64 a.h.ph, .int .i64 a.h.f, .int .i64 a.h.c, .bool a.h.tu, .int .i64 a.ov, .int .i64 a.start, .int .i64 a.master, .int .i64 a.cause, .bool a.instep, .bool i.power, .bool i.op, .int .i64 i.actual, .int .i64 i.cause, .bool i.plus, .bool i.minus, .bool i.home, .bool i.reset, .bool i.release, .int .i64 i.ov, .int .i64 i.master, .slice L.A L.n L.c, .slice T.A T.n T.c, .bool fr, .bool pa]
structure Only (g : Nat) (w w' : World) : Prop where
 os : w'.os = w.os
 tape : w'.tape = w.tape
 output : w'.output = w.output
 size : w'.heap.size = w.heap.size
 block : ∀ k, k ≠ g → w'.heap[k]? = w.heap[k]?
theorem Only.refl (g : Nat) (w : World) : Only g w w := ⟨rfl, rfl, rfl, rfl, fun _ _ => rfl⟩
theorem Only.trans {g : Nat} {a b c : World} (h : Only g a b) (h2 : Only g b c) : Only g a c := ⟨h2.os.trans h.os, h2.tape.trans h.tape, h2.output.trans h.output, h2.size.trans h.size, fun k hk => (h2.block k hk).trans (h.block k hk)⟩
theorem Only.set {g : Nat} {w w' : World} (h : Only g w w') (i : Nat) (x : Value) : Only g w (w'.setCell ⟨g, i, none⟩ x) := h.trans ⟨rfl, rfl, rfl, by simp, fun k hk => Below.heap_setCell w' ⟨g, i, none⟩ x k hk⟩
theorem Only.puts {g : Nat} : ∀ (us : List Value) (o : Nat) {w w' : World}, Only g w w' → Only g w (k.puts w' g o us)
 | [], _, _, _, h => h
 | u :: us, o, _, _, h => Only.puts us (o + 1) (h.set o u)
theorem Only.sets {g : Nat} {w w' : World} (us : List Value) (o : Nat) (h : Only g w w') : Only g w (w'.setCells g o us) := by rw [k.setCells_puts]; exact Only.puts us o h
theorem Only.below {g B : Nat} {w w' : World} (h : Only g w w') (hB : B ≤ g) : Below B w w' := ⟨h.os, h.tape, h.output, Nat.le_of_eq h.size.symm, fun q hq => h.block q (by omega)⟩
theorem box_mid {g : Nat} : ∀ {us vs : List Value} {w : World} {o : Nat}, k.Box w g o vs → us.length ≤ vs.length → k.Box (k.puts w g o us) g o (us ++ vs.drop us.length)
 | [], vs, w, o, h, _ => h
 | u :: us, [], w, o, _, hl => by simp at hl
 | u :: us, v :: vs, w, o, h, hl => by
  have h1 : (w.setCell ⟨g, o, none⟩ u).cell? ⟨g, o, none⟩ = some u ∧ (w.setCell ⟨g, o, none⟩ u).frozen? ⟨g, o, none⟩ = false := by
   have a := h.1
   have b := h.2.1
   constructor <;> simp [go_sem, a, b]
  have ih := box_mid (us := us) (vs := vs) (w := w.setCell ⟨g, o, none⟩ u) (o := o + 1) (setCell_box o u (by omega) h.2.2) (by simpa using hl)
  have h2 := puts_keep h1.1 h1.2 us (o + 1) (by omega)
  exact ⟨h2.1, h2.2, ih⟩
theorem box_take {w : World} {g : Nat} : ∀ {us vs : List Value} {o : Nat}, k.Box w g o (us ++ vs) → k.Box w g o us
 | [], _, _, _ => trivial
 | _ :: _, _, _, h => ⟨h.1, h.2.1, box_take h.2.2⟩
theorem Box.same {w w' : World} {g : Nat} (h : w'.heap[g]? = w.heap[g]?) : ∀ {vs : List Value} {o : Nat}, k.Box w g o vs → k.Box w' g o vs
 | [], _, _ => trivial
 | v :: vs, o, hb => ⟨(World.cell?_of_block h).trans hb.1, (World.frozen?_of_block h).trans hb.2.1, Box.same h hb.2.2⟩
theorem rd_kept {α : Type} {enc : α → List Value} {z : Nat} {w w' : World} {B B' : Nat} {s : Sl} {L : List α} (P : Nat → Prop) (h : Rd enc z w B s.A s.n s.c L) (hB : B ≤ B') (ho : ∀ q, P q → Off q s) (hk : ∀ q, q < B → ¬ P q → w'.heap[q]? = w.heap[q]?) : Rd enc z w' B' s.A s.n s.c L :=
 ⟨h.1, h.2.1, h.2.2.1, h.2.2.2.1, fun hn => by
  obtain ⟨b, off, e, hb, hc⟩ := h.2.2.2.2 hn
  have hP : ¬ P b := fun hp => ho b hp hn b off none e rfl
  exact ⟨b, off, e, by omega, fun i x hx j v hv => (World.cell?_of_block (a := ⟨b, off + i * z + j, none⟩) (hk b hb hP)).trans (hc i x hx j v hv)⟩⟩
theorem RdA.kept {w w' : World} {B B' : Nat} {a : Ax} {S N W : Sl} (P : Nat → Prop) (h : RdA w B a S N W) (hB : B ≤ B') (ho : ∀ q, P q → OffA q S N W) (hk : ∀ q, q < B → ¬ P q → w'.heap[q]? = w.heap[q]?) : RdA w' B' a S N W :=
 ⟨rd_kept P h.S hB (fun q hq => (ho q hq).S) hk, rd_kept P h.N hB (fun q hq => (ho q hq).N) hk, rd_kept P h.W hB (fun q hq => (ho q hq).W) hk⟩
theorem RdA.as {w : World} {B : Nat} {a a' : Ax} {S N W : Sl} (h : RdA w B a S N W) (h1 : a'.sm = a.sm) (h2 : a'.N = a.N) (h3 : a'.W = a.W) : RdA w B a' S N W := ⟨by rw [h1]; exact h.S, by rw [h2]; exact h.N, by rw [h3]; exact h.W⟩
structure Cy (base g : Nat) (i : In) (L : Sl) (a : Ax) (S N W T : Sl) (R : List Rp) (fr pa : Bool) (w : World) : Prop where
 hg : base ≤ g
 box : k.Box w g 0 (cyC a S N W i L T fr pa)
 rows : RdA w w.heap.size a S N W
 off : OffA g S N W
 new : ∀ q, q < base → OffA q S N W
 told : OwR w (g + 1) T.v R
 offT : ∀ b, T.v.ownBlock = some b → OffA b S N W
def Cyc (base g : Nat) (i : In) (L : Sl) (tb : Option Nat) (a : Ax) (R : List Rp) (fr pa : Bool) (w : World) : Prop := ∃ S N W T : Sl, Cy base g i L a S N W T R fr pa w ∧ T.v.ownBlock = tb
structure Fr (g : Nat) (tb : Option Nat) (w w' : World) : Prop where
 os : w'.os = w.os
 tape : w'.tape = w.tape
 output : w'.output = w.output
 size : w.heap.size ≤ w'.heap.size
 block : ∀ q, q < w.heap.size → q ≠ g → tb ≠ some q → w'.heap[q]? = w.heap[q]?
def Nx (w : World) (tb tb' : Option Nat) : Prop := tb' = tb ∨ ∃ b, tb' = some b ∧ w.heap.size ≤ b
structure Fx (g : Nat) (tb : Option Nat) (w : World) (tb' : Option Nat) (w' : World) : Prop where
 fr : Fr g tb w w'
 nx : Nx w tb tb'
def Did (base g : Nat) (i : In) (L : Sl) (tb : Option Nat) (w : World) (a : Ax) (R : List Rp) (fr pa : Bool) (w' : World) : Prop := ∃ tb', Cyc base g i L tb' a R fr pa w' ∧ Fx g tb w tb' w'
def Does (base g : Nat) (i : In) (L : Sl) (tb : Option Nat) (w : World) (a : Ax) (R : List Rp) (fr pa : Bool) (e : Ending) (w' : World) : Prop := e = .returned (.tuple #[]) ∧ Did base g i L tb w a R fr pa w'
theorem Fr.refl (g : Nat) (tb : Option Nat) (w : World) : Fr g tb w w := ⟨rfl, rfl, rfl, Nat.le_refl _, fun _ _ _ _ => rfl⟩
theorem Nx.refl (w : World) (tb : Option Nat) : Nx w tb tb := .inl rfl
theorem Fr.trans {g : Nat} {tb tb1 : Option Nat} {w w1 w2 : World} (h : Fr g tb w w1) (hn : Nx w tb tb1) (h2 : Fr g tb1 w1 w2) : Fr g tb w w2 :=
 ⟨h2.os.trans h.os, h2.tape.trans h.tape, h2.output.trans h.output, Nat.le_trans h.size h2.size, fun q hq hg ht => (h2.block q (Nat.lt_of_lt_of_le hq h.size) hg (by
  rcases hn with rfl | ⟨b, rfl, hb⟩
  ·exact ht
  ·intro e; injection e with e; omega)).trans (h.block q hq hg ht)⟩
theorem Nx.trans {g : Nat} {tb tb1 tb2 : Option Nat} {w w1 : World} (h : Nx w tb tb1) (hf : Fr g tb w w1) (h2 : Nx w1 tb1 tb2) : Nx w tb tb2 := by
 rcases h2 with rfl | ⟨b, rfl, hb⟩
 ·exact h
 ·exact .inr ⟨b, rfl, Nat.le_trans hf.size hb⟩
theorem Fr.of_below {g : Nat} {tb : Option Nat} {w w' : World} (h : Below w.heap.size w w') : Fr g tb w w' := ⟨h.os, h.tape, h.output, h.size, fun q hq _ _ => h.block q hq⟩
theorem Fr.of_only {g : Nat} {tb : Option Nat} {w w' : World} (h : Only g w w') : Fr g tb w w' := ⟨h.os, h.tape, h.output, Nat.le_of_eq h.size.symm, fun q _ hg _ => h.block q hg⟩
theorem Fr.box {g : Nat} {tb : Option Nat} {w w' : World} (h : Fr g tb w w') {v o : Nat} {vs : List Value} (hb : k.Box w v o vs) (h1 : v < w.heap.size) (h2 : v ≠ g) (h3 : tb ≠ some v) : k.Box w' v o vs := Box.same (h.block v h1 h2 h3) hb
theorem Nx.ne {w : World} {tb tb' : Option Nat} (h : Nx w tb tb') {v : Nat} (h1 : v < w.heap.size) (h2 : tb ≠ some v) : tb' ≠ some v := by
 rcases h with rfl | ⟨b, rfl, hb⟩
 ·exact h2
 ·intro e; injection e with e; omega
theorem Fx.refl (g : Nat) (tb : Option Nat) (w : World) : Fx g tb w tb w := ⟨Fr.refl _ _ _, Nx.refl _ _⟩
theorem Fx.trans {g : Nat} {tb tb1 tb2 : Option Nat} {w w1 w2 : World} (h : Fx g tb w tb1 w1) (h2 : Fx g tb1 w1 tb2 w2) : Fx g tb w tb2 w2 := ⟨h.fr.trans h.nx h2.fr, h.nx.trans h.fr h2.nx⟩
theorem Fx.below {g : Nat} {tb tb1 : Option Nat} {w w1 w2 : World} (h : Fx g tb w tb1 w1) (hb : Below w1.heap.size w1 w2) : Fx g tb w tb1 w2 := h.trans ⟨Fr.of_below hb, Nx.refl _ _⟩
theorem Fx.only {g : Nat} {tb tb1 : Option Nat} {w w1 w2 : World} (h : Fx g tb w tb1 w1) (ho : Only g w1 w2) : Fx g tb w tb1 w2 := h.trans ⟨Fr.of_only ho, Nx.refl _ _⟩
theorem Fx.box {g : Nat} {tb tb' : Option Nat} {w w' : World} (h : Fx g tb w tb' w') {v o : Nat} {vs : List Value} (hb : k.Box w v o vs) (h1 : v < w.heap.size) (h2 : v ≠ g ∧ tb ≠ some v) : k.Box w' v o vs := h.fr.box hb h1 h2.1 h2.2
theorem Fx.ne {g : Nat} {tb tb' : Option Nat} {w w' : World} (h : Fx g tb w tb' w') {v : Nat} (h1 : v < w.heap.size) (h2 : v ≠ g ∧ tb ≠ some v) : v ≠ g ∧ tb' ≠ some v := ⟨h2.1, h.nx.ne h1 h2.2⟩
section
variable {base g : Nat} {i : In} {L : Sl} {a : Ax} {S N W T : Sl} {R : List Rp} {fr pa : Bool} {w w' : World} {tb : Option Nat}
theorem Cy.lt (h : Cy base g i L a S N W T R fr pa w) : g < w.heap.size := k.lt_of_cell h.box.1
theorem Cy.ax (h : Cy base g i L a S N W T R fr pa w) : k.Box w g 0 (axC a S N W) := box_take (us := axC a S N W) (vs := [.bool i.power, .bool i.op, .int .i64 i.actual, .int .i64 i.cause, .bool i.plus, .bool i.minus, .bool i.home, .bool i.reset, .bool i.release, .int .i64 i.ov, .int .i64 i.master, .slice L.A L.n L.c, .slice T.A T.n T.c, .bool fr, .bool pa]) h.box
theorem Cy.below (h : Cy base g i L a S N W T R fr pa w) (hb : Below w.heap.size w w') : Cy base g i L a S N W T R fr pa w' :=
 ⟨h.hg, h.box.below hb h.lt, (h.rows.below hb).more hb.size, h.off, h.new, h.told.under hb, h.offT⟩
theorem Cy.tb_lt (h : Cy base g i L a S N W T R fr pa w) {b : Nat} (e : T.v.ownBlock = some b) : g < b ∧ b < w.heap.size := by
 have := h.told.lt b e
 omega
theorem Cy.to (h : Cy base g i L a S N W T R fr pa w) {a' : Ax} {S' N' W' : Sl} {fr' pa' : Bool} (ho : Only g w w') (hb : k.Box w' g 0 (cyC a' S' N' W' i L T fr' pa')) (hr : RdA w w.heap.size a' S' N' W') (hf : OffA g S' N' W') (hn : ∀ q, q < base → OffA q S' N' W')
  (hT : ∀ b, T.v.ownBlock = some b → OffA b S' N' W') : Cy base g i L a' S' N' W' T R fr' pa' w' := by
 refine ⟨h.hg, hb, RdA.kept (fun q => q = g) hr (Nat.le_of_eq ho.size.symm) (fun q hq => by subst hq; exact hf) (fun q _ hq => ho.block q hq), hf, hn, ?_, hT⟩
 refine h.told.kept (row := some g) ⟨ho.os, ho.tape, ho.output, Nat.le_of_eq ho.size.symm, fun q _ hq => ho.block q fun e => hq (by rw [e])⟩ ?_
 cases hT2 : T.v.ownBlock with
 | none => exact .inl rfl
 | some b => exact .inr fun e => by injection e with e; have := h.tb_lt hT2; omega
theorem Cy.as (h : Cy base g i L a S N W T R fr pa w) {a' : Ax} {fr' pa' : Bool} (ho : Only g w w') (hb : k.Box w' g 0 (cyC a' S N W i L T fr' pa')) (h1 : a'.sm = a.sm) (h2 : a'.N = a.N) (h3 : a'.W = a.W) : Cy base g i L a' S N W T R fr' pa' w' :=
 h.to ho hb (RdA.as h.rows h1 h2 h3) h.off h.new h.offT
theorem Cyc.lt (h : Cyc base g i L tb a R fr pa w) : g < w.heap.size := by obtain ⟨S, N, W, T, h, _⟩ := h; exact h.lt
theorem Cyc.below (h : Cyc base g i L tb a R fr pa w) (hb : Below w.heap.size w w') : Cyc base g i L tb a R fr pa w' := by
 obtain ⟨S, N, W, T, h, ht⟩ := h
 exact ⟨S, N, W, T, h.below hb, ht⟩
theorem Cyc.tb_lt (h : Cyc base g i L tb a R fr pa w) {b : Nat} (e : tb = some b) : g < b ∧ b < w.heap.size := by
 obtain ⟨S, N, W, T, h, ht⟩ := h
 exact h.tb_lt (ht.trans e)
theorem Cyc.apart (h : Cyc base g i L tb a R fr pa w) {v : Nat} (hv : w.heap.size ≤ v) : v ≠ g ∧ tb ≠ some v := by
 refine ⟨fun e => by have := h.lt; omega, fun e => by have := (h.tb_lt e).2; omega⟩
theorem Did.of (h : Cyc base g i L tb a R fr pa w) : Did base g i L tb w a R fr pa w := ⟨tb, h, Fx.refl _ _ _⟩
theorem Did.trans {tb1 : Option Nat} {a' : Ax} {R' : List Rp} {fr' pa' : Bool} {w2 : World} (hf : Fx g tb w tb1 w') (h : Did base g i L tb1 w' a' R' fr' pa' w2) : Did base g i L tb w a' R' fr' pa' w2 := by
 obtain ⟨tb', h1, h2⟩ := h
 exact ⟨tb', h1, hf.trans h2⟩
theorem Did.mk' {w1 w2 : World} {a' : Ax} {S' N' W' : Sl} {R' : List Rp} {fr' pa' : Bool} (hb : Below w.heap.size w w1) (ho : Only g w1 w2) (h : Cy base g i L a' S' N' W' T R' fr' pa' w2) (ht : T.v.ownBlock = tb) : Did base g i L tb w a' R' fr' pa' w2 :=
 ⟨tb, ⟨S', N', W', T, h, ht⟩, ((Fx.refl _ _ _).below hb).only ho⟩
theorem Cy.box_grown (h : Cy base g i L a S N W T R fr pa w) (hg : w.grownBy w' T.v.ownBlock) : k.Box w' g 0 (cyC a S N W i L T fr pa) :=
 Box.same (hg.block g h.lt fun e => by have := (h.tb_lt e.symm).1; omega) h.box
theorem Cy.told_on (h : Cy base g i L a S N W T R fr pa w) {T1 : Sl} {R1 : List Rp} (hg : w.grownBy w' T.v.ownBlock) (hown : OwR w' (g + 1) T1.v R1) (hat : T1.v.ownBlock = T.v.ownBlock ∨ T1.v.ownBlock = some w.heap.size) :
  Cy base g i L a S N W T1 R1 fr pa (w'.setCell ⟨g, 38, none⟩ (.slice T1.A T1.n T1.c)) ∧ Fx g T.v.ownBlock w T1.v.ownBlock (w'.setCell ⟨g, 38, none⟩ (.slice T1.A T1.n T1.c)) := by
 have ho := (Only.refl g w').set 38 (.slice T1.A T1.n T1.c)
 have hlt := h.lt
 refine ⟨⟨h.hg, k.Box.put (h.box_grown hg) 38 (by simp) _, RdA.kept (fun q => q = g ∨ T.v.ownBlock = some q) h.rows (by rw [ho.size]; exact hg.size) (fun q hq => ?_) (fun q hq hP => ?_), h.off, h.new, ?_, fun b hb => ?_⟩, ⟨⟨ho.os.trans hg.os, ho.tape.trans hg.tape, ho.output.trans hg.output, by rw [ho.size]; exact hg.size, fun q hq h1 h2 => (ho.block q h1).trans (hg.block q hq (fun e => h2 e.symm))⟩, ?_⟩⟩
 ·rcases hq with rfl | hq
  ·exact h.off
  ·exact h.offT q hq
 ·exact (ho.block q fun e => hP (.inl e)).trans (hg.block q hq fun e => hP (.inr e.symm))
 ·refine hown.kept (row := some g) ⟨ho.os, ho.tape, ho.output, Nat.le_of_eq ho.size.symm, fun q _ hq => ho.block q fun e => hq (by rw [e])⟩ ?_
  cases hT2 : T1.v.ownBlock with
  | none => exact .inl rfl
  | some b => exact .inr fun e => by injection e with e; have := hown.lt b hT2; omega
 ·rcases hat with e | e
  ·exact h.offT b (e ▸ hb)
  ·rw [e] at hb
   injection hb with hb
   subst hb
   exact h.rows.off (Nat.le_refl _)
 ·rcases hat with e | e
  ·exact .inl e
  ·exact .inr ⟨_, e, Nat.le_refl _⟩
end
theorem results_no {P : Program} {fn : Func} (h : fn.results = #[]) (tmps : Array Value) (w : World) : (results fn tmps).run P w = .ok (.tuple #[]) w := by
 rw [results, h]
 simp
theorem end0 {P : Program} {fn : Func} {Q : Ending → World → Prop} {a : Act} {w : World} (hr : fn.results = #[]) (hd : a.defers = []) (hQ : Q (.returned (.tuple #[])) w) : bodyPost P fn Q .normal a w := bodyPost_end (results_no hr _ _) hd hQ
theorem ret0 {P : Program} {fn : Func} {Q : Ending → World → Prop} {a : Act} {w : World} (hr : fn.results = #[]) (hd : a.defers = []) (hQ : Q (.returned (.tuple #[])) w) : bodyPost P fn Q .ret a w := bodyPost_ret (results_no hr _ _) hd hQ
end Go.Proofs.YtijlccblabadaaaGreat.cx
end
