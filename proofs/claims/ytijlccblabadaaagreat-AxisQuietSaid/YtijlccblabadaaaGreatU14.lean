/- What servitorref15's Same answers of two axes that are the same: true. No condition beyond what each line says. -/
import Derived.Test.YtijlccblabadaaaGreatU02
section
namespace Go.Proofs.YtijlccblabadaaaGreat.ax
set_option maxRecDepth 100000
open Go.ChangeShapes Go.WideShapes Go.ChangeAt Go.RowKit Go.Proofs.YtijlccblabadaaaGreat.k Go.Proofs.YtijlccblabadaaaGreat.rr
open Go.Proofs.YtijlccblabadaaaGreat.ln (C RdC RdI iC iC_len iC_one cell_int rows_same)
set_option linter.unusedVariables false
set_option maxRecDepth 100000 in
set_option maxHeartbeats 4000000 in
theorem refsame_any (a : Ax) {S N W S' N' W' : Sl} {B : Nat} (w : World) (h : RdA w B a S N W) (h' : RdA w B a S' N' W') (hB : B ≤ w.heap.size) :
  Calls Tryz.prog 13 #[axV a S N W, axV a S' N' W'] w fun e w' => e = .returned (.bool true) ∧ Below w.heap.size w w' := by
 obtain ⟨x1, x2, x3, x4⟩ := k.boxes2 (w := w) (c1 := axA a S N W) (t1 := 35) (c2 := axA a S' N' W') (t2 := 35) (Below.refl _ _)
 have X1 := lh x1
 have X2 := lh x2
 have X3 := lh x3
 have hlen := h.S.len_le
 have eN : N'.n = N.n := h'.N.1.symm.trans h.N.1
 have eW : W'.n = W.n := h'.W.1.symm.trans h.W.1
 have eS : S'.n = S.n := h'.S.1.symm.trans h.S.1
 obtain ⟨SA', Sn', Sc'⟩ := S'
 obtain ⟨NA', Nn', Nc'⟩ := N'
 obtain ⟨WA', Wn', Wc'⟩ := W'
 dsimp only at eN eW eS
 subst eN eW eS
 have CL := lh fun (W0 : World) (hb : Below B w W0) => ln.same_any a.N a.W (h.N.below hb) (h.W.below hb) (h'.N.below hb) (h'.W.below hb) (Nat.le_trans hB hb.size)
 have HR := lh (h.S.below (x3.mono hB))
 have HR' := lh (h'.S.below (x3.mono hB))
 have HBB := lh hB
 clear x1 x2 x3 h h' hB
 go_enter Tryz.func13, Tryz.ntmps13
 go_upto_region 1 with fail
 generalize (w.alloc (.cells (axA a S N W) 35)).alloc (.cells (axA a _ _ _) 35) = w2 at X1 X2 X3 x4 HR HR' ⊢
 have ⟨p0, _⟩ := k.cell_of X1.out (i := 0) rfl
 have ⟨r0, _⟩ := k.cell_of X2.out (i := 0) rfl
 have ⟨p1, _⟩ := k.cell_of X1.out (i := 1) rfl
 have ⟨r1, _⟩ := k.cell_of X2.out (i := 1) rfl
 have ⟨p2, _⟩ := k.cell_of X1.out (i := 2) rfl
 have ⟨r2, _⟩ := k.cell_of X2.out (i := 2) rfl
 have ⟨p3, _⟩ := k.cell_of X1.out (i := 3) rfl
 have ⟨r3, _⟩ := k.cell_of X2.out (i := 3) rfl
 have ⟨p4, _⟩ := k.cell_of X1.out (i := 4) rfl
 have ⟨r4, _⟩ := k.cell_of X2.out (i := 4) rfl
 have ⟨p5, _⟩ := k.cell_of X1.out (i := 5) rfl
 have ⟨r5, _⟩ := k.cell_of X2.out (i := 5) rfl
 have ⟨p6, _⟩ := k.cell_of X1.out (i := 6) rfl
 have ⟨r6, _⟩ := k.cell_of X2.out (i := 6) rfl
 have ⟨p7, _⟩ := k.cell_of X1.out (i := 7) rfl
 have ⟨r7, _⟩ := k.cell_of X2.out (i := 7) rfl
 have ⟨p8, _⟩ := k.cell_of X1.out (i := 8) rfl
 have ⟨r8, _⟩ := k.cell_of X2.out (i := 8) rfl
 have ⟨p9, _⟩ := k.cell_of X1.out (i := 9) rfl
 have ⟨r9, _⟩ := k.cell_of X2.out (i := 9) rfl
 have ⟨p10, _⟩ := k.cell_of X1.out (i := 10) rfl
 have ⟨r10, _⟩ := k.cell_of X2.out (i := 10) rfl
 have ⟨p11, _⟩ := k.cell_of X1.out (i := 11) rfl
 have ⟨r11, _⟩ := k.cell_of X2.out (i := 11) rfl
 have ⟨p12, _⟩ := k.cell_of X1.out (i := 12) rfl
 have ⟨r12, _⟩ := k.cell_of X2.out (i := 12) rfl
 have ⟨p13, _⟩ := k.cell_of X1.out (i := 13) rfl
 have ⟨r13, _⟩ := k.cell_of X2.out (i := 13) rfl
 have ⟨p14, _⟩ := k.cell_of X1.out (i := 14) rfl
 have ⟨r14, _⟩ := k.cell_of X2.out (i := 14) rfl
 have ⟨p15, _⟩ := k.cell_of X1.out (i := 15) rfl
 have ⟨r15, _⟩ := k.cell_of X2.out (i := 15) rfl
 have ⟨p16, _⟩ := k.cell_of X1.out (i := 16) rfl
 have ⟨r16, _⟩ := k.cell_of X2.out (i := 16) rfl
 have ⟨p17, _⟩ := k.cell_of X1.out (i := 17) rfl
 have ⟨r17, _⟩ := k.cell_of X2.out (i := 17) rfl
 have ⟨p18, _⟩ := k.cell_of X1.out (i := 18) rfl
 have ⟨r18, _⟩ := k.cell_of X2.out (i := 18) rfl
 have ⟨p19, _⟩ := k.cell_of X1.out (i := 19) rfl
 have ⟨r19, _⟩ := k.cell_of X2.out (i := 19) rfl
 have ⟨p20, _⟩ := k.cell_of X1.out (i := 20) rfl
 have ⟨r20, _⟩ := k.cell_of X2.out (i := 20) rfl
 have ⟨p21, _⟩ := k.cell_of X1.out (i := 21) rfl
 have ⟨r21, _⟩ := k.cell_of X2.out (i := 21) rfl
 have ⟨p22, _⟩ := k.cell_of X1.out (i := 22) rfl
 have ⟨r22, _⟩ := k.cell_of X2.out (i := 22) rfl
 have ⟨p23, _⟩ := k.cell_of X1.out (i := 23) rfl
 have ⟨r23, _⟩ := k.cell_of X2.out (i := 23) rfl
 have ⟨p24, _⟩ := k.cell_of X1.out (i := 24) rfl
 have ⟨r24, _⟩ := k.cell_of X2.out (i := 24) rfl
 have ⟨p25, _⟩ := k.cell_of X1.out (i := 25) rfl
 have ⟨r25, _⟩ := k.cell_of X2.out (i := 25) rfl
 go_wp2_with (go_at_call 29; ((with_reducible refine (CL.out _ (X3.out.mono HBB.out)).mono ?_); rintro e w3 ⟨rfl, hb⟩; clear p0 r0 p1 r1 p2 r2 p3 r3 p4 r4 p5 r5 p6 r6 p7 r7 p8 r8 p9 r9 p10 r10 p11 r11 p12 r12 p13 r13 p14 r14 p15 r15 p16 r16 p17 r17 p18 r18 p19 r19 p20 r20 p21 r21 p22 r22 p23 r23 p24 r24 p25 r25; have Y1 := lh (X1.out.below hb (by omega)); have Y2 := lh (X2.out.below hb x4); have y4 := Nat.lt_of_lt_of_le x4 hb.size; have Y3 := lh (X3.out.trans (hb.mono X3.out.size)); have HR3 := lh (HR.out.below (hb.mono (Nat.le_trans HBB.out X3.out.size))); have HR3' := lh (HR'.out.below (hb.mono (Nat.le_trans HBB.out X3.out.size))); clear hb X1 X2 X3 HR HR' x4; have ⟨p12, _⟩ := k.cell_of Y1.out (i := 12) rfl; have ⟨r12, _⟩ := k.cell_of Y2.out (i := 12) rfl; have ⟨p16, _⟩ := k.cell_of Y1.out (i := 16) rfl; have ⟨r16, _⟩ := k.cell_of Y2.out (i := 16) rfl; have ⟨p17, _⟩ := k.cell_of Y1.out (i := 17) rfl; have ⟨r17, _⟩ := k.cell_of Y2.out (i := 17) rfl; have ⟨p18, _⟩ := k.cell_of Y1.out (i := 18) rfl; have ⟨r18, _⟩ := k.cell_of Y2.out (i := 18) rfl; have ⟨p19, _⟩ := k.cell_of Y1.out (i := 19) rfl; have ⟨r19, _⟩ := k.cell_of Y2.out (i := 19) rfl; have ⟨p20, _⟩ := k.cell_of Y1.out (i := 20) rfl; have ⟨r20, _⟩ := k.cell_of Y2.out (i := 20) rfl; have ⟨p21, _⟩ := k.cell_of Y1.out (i := 21) rfl; have ⟨r21, _⟩ := k.cell_of Y2.out (i := 21) rfl; have ⟨p22, _⟩ := k.cell_of Y1.out (i := 22) rfl; have ⟨r22, _⟩ := k.cell_of Y2.out (i := 22) rfl; have ⟨p23, _⟩ := k.cell_of Y1.out (i := 23) rfl; have ⟨r23, _⟩ := k.cell_of Y2.out (i := 23) rfl; have ⟨p24, _⟩ := k.cell_of Y1.out (i := 24) rfl; have ⟨r24, _⟩ := k.cell_of Y2.out (i := 24) rfl; have ⟨p25, _⟩ := k.cell_of Y1.out (i := 25) rfl; have ⟨r25, _⟩ := k.cell_of Y2.out (i := 25) rfl))
 go_loopw [5] (fun i wr => ∃ j : Nat, j ≤ S.n ∧ i = .int .i64 j ∧ ∃ q, wr = w3.drewN q) (fun i _ => S.n - (intOf i).toNat)
 case atStart => exact ⟨0, Nat.zero_le _, rfl, 0, rfl⟩
 case round =>
  obtain ⟨j, hj, rfl, q, rfl⟩ := hrel
  by_cases hlt : j < S.n
  ·obtain ⟨b, o, x, eA, hb, hx, hr⟩ := HR3.out.at hlt
   obtain ⟨b', o', x', eA', hb', hx', hr'⟩ := HR3'.out.at hlt
   rw [eA] at p12
   rw [eA'] at r12
   have ex := rows_same hx hx'
   subst ex
   have c0 := cell_int hr
   have d0 := cell_int hr'
   have hj0 : (0 : Int) ≤ (j : Int) := by omega
   have hj1 : (j : Int) < (S.n : Int) := by omega
   clear hr hr' hx hx'
   go_wp2
   go_quiet (fail)
   go_wp2
   go_roundw
   case rel => exact ⟨j + 1, by omega, by go_num, q + nq, (by first | rfl | exact World.drewN_drewN _ _ _)⟩
   case measure => simp [intOf]; omega
  ·have hjl : j = S.n := by omega
   have hj2 : ¬ (j : Int) < (S.n : Int) := by omega
   clear hlt hj
   go_wp2
   go_ret
   exact ⟨rfl, below_drawn Y3.out _⟩
end Go.Proofs.YtijlccblabadaaaGreat.ax
end
