/- The walk of the law AxisMade: any numbers, any axis: it returns true, and what was in memory is as it was. -/
import Derived.Test.YtijlccblabadaaaGreatV15
import Derived.Test.YtijlccblabadaaaGreatU13
import Derived.Test.YtijlccblabadaaaGreatU12
import Derived.Test.YtijlccblabadaaaGreatU14
import Derived.Test.YtijlccblabadaaaGreatU16
import Derived.Test.YtijlccblabadaaaGreatU17
namespace Go.Proofs.YtijlccblabadaaaGreat.axisMade
set_option maxRecDepth 100000
open Go.ChangeShapes Go.WideShapes Go.ChangeAt Go.RowKit Go.Proofs.YtijlccblabadaaaGreat.k Go.Proofs.YtijlccblabadaaaGreat.rr Go.Proofs.YtijlccblabadaaaGreat.ax Go.Proofs.YtijlccblabadaaaGreat
open Go.Proofs.YtijlccblabadaaaGreat.ln (C RdC RdI)
set_option linter.unusedVariables false
theorem made_yes {l : Lm} {win ha f c : Int} (h : MadeP l win ha f c) : madeB l win ha f c = true := decide_eq_true h
theorem made_no {l : Lm} {win ha f c : Int} (h : ¬ MadeP l win ha f c) : madeB l win ha f c = false := decide_eq_false h
theorem rdA_zero (w : World) (B : Nat) : RdA w B zeroA ⟨none, 0, 0⟩ ⟨none, 0, 0⟩ ⟨none, 0, 0⟩ := ⟨Rd.none_ _ _ _ _, Rd.none_ _ _ _ _, Rd.none_ _ _ _ _⟩
set_option maxRecDepth 100000 in
set_option maxHeartbeats 4000000 in
theorem walk_in (l : Lm) (win ha f cr : Int) (a : Ax) (S N T : Sl) (w : World) (hl : WideL l) (h1 : InR win) (h2 : InR ha) (h3 : InR f) (h4 : InR cr) (hr : RdA w w.heap.size a S N T) (hw : WideA a) :
  Calls Tryz.prog 3 #[lmV l, .int .i64 win, .int .i64 ha, .int .i64 f, .int .i64 cr, axV a S N T] w fun e w' => e = .returned (.bool true) ∧ Below w.heap.size w w' := by
 have HK := lh fun W => awake_any W
 have HR := lh hr
 have HW := lh hw
 have CN := lh fun W => new_any l win ha f cr hl h1 h2 h3 h4 W
 have CD := lh fun W => refmade_any l win ha f cr W
 have HS := lh fun (W : World) => refshort_any a S N T ⟨false, false, 0, 0, false, false, false, false, false, 0, 0, []⟩ ⟨none, 0, 0⟩ W
 have CRR : Hid (∀ W : World, RdA W W.heap.size a S N T → N.n ≤ 1000 → T.n ≤ 1000 → Calls Tryz.prog 16 #[axV a S N T] W fun e w' => e = .returned (.bool (rightB a)) ∧ Below W.heap.size W w') := lh fun W h b1 b2 => refright_any a hw.p hw.v S N T W h (Nat.le_refl _) b1 b2
 have CZ : Hid (∀ (W : World) (S1 N1 T1 : Sl), RdA W W.heap.size zeroA S1 N1 T1 → Calls Tryz.prog 13 #[axV zeroA S1 N1 T1, .agg zAx] W fun e w' => e = .returned (.bool true) ∧ Below W.heap.size W w') := lh fun W S1 N1 T1 h => refsame_any zeroA (S' := ⟨none, 0, 0⟩) (N' := ⟨none, 0, 0⟩) (W' := ⟨none, 0, 0⟩) W h (rdA_zero _ _) (Nat.le_refl _)
 clear hl h2 h3 h4 hr hw
 by_cases hm : MadeP l win ha f cr
 ·obtain ⟨nA, hn⟩ : ∃ n, newA l win ha f cr = n := ⟨_, rfl⟩
  have e1 : newOf l win ha f cr = nA := by rw [← hn]; exact if_pos hm
  have e2 : newE l win ha f cr = 0 := if_pos hm
  have GN : Hid (GoodA nA) := lh (hn ▸ new_good hm)
  unfold GotN at CN
  rw [e1, e2] at CN
  rw [made_yes hm] at CD
  have CM : Hid (∀ W : World, Calls Tryz.prog 12 #[lmV l, .int .i64 win, .int .i64 ha, .int .i64 f, .int .i64 cr] W fun e w' => ∃ S N T : Sl, e = .returned (axV nA S N T) ∧ RdA w' w'.heap.size nA S N T ∧ Below W.heap.size W w') := lh fun W => by
   refine (refnew_any l win ha f cr (by have := hm.2.1; omega) (by have := hm.2.2.1; omega) W).mono ?_
   rintro e w' ⟨A, n, c, rfl, ho, hb⟩
   rw [← hn]
   exact ⟨⟨A, n, c⟩, ⟨none, 0, 0⟩, ⟨none, 0, 0⟩, rfl, ⟨ol_row ho, Rd.none_ _ _ _ _, Rd.none_ _ _ _ _⟩, hb⟩
  clear hn e1 e2 hm
  go_enter Tryz.func3, Tryz.ntmps3
  go_upto_region 10 with (first | (go_at_call 9; ((with_reducible refine (HK.out _).mono ?_); rintro e v1 ⟨rfl, hb⟩; obtain ⟨x0, x1, hbb, hz⟩ := k.boxes2 hb; have XL : Hid (k.Box v1 w.heap.size 0 (lmC l)) := lh x0; have X : Hid (k.Box v1 (w.heap.size + 1) 0 (axC a S N T)) := lh x1; have hzl : w.heap.size < v1.heap.size := (by omega); have HB := lh hbb; have HR := lh (HR.out.past hbb); have ⟨l0, _⟩ := k.cell_of XL.out (i := 0) rfl; have ⟨l1, _⟩ := k.cell_of XL.out (i := 1) rfl; have ⟨l2, _⟩ := k.cell_of XL.out (i := 2) rfl; have ⟨l3, _⟩ := k.cell_of XL.out (i := 3) rfl; have ⟨l4, _⟩ := k.cell_of XL.out (i := 4) rfl; clear x0 x1 hb hbb)) | (go_at_call 10; ((with_reducible refine (CN.out _).mono ?_); rintro e v2 ⟨S1, N1, T1, rfl, hr, hb⟩; clear l0 l1 l2 l3 l4; have XL := lh (XL.out.below hb hzl); have X := lh (X.out.below hb hz); have hzl := Nat.lt_of_lt_of_le hzl hb.size; have hz := Nat.lt_of_lt_of_le hz hb.size; have HB := lh (HB.out.trans (hb.mono HB.out.size)); have HR := lh (HR.out.past hb); have ⟨l0, _⟩ := k.cell_of XL.out (i := 0) rfl; have ⟨l1, _⟩ := k.cell_of XL.out (i := 1) rfl; have ⟨l2, _⟩ := k.cell_of XL.out (i := 2) rfl; have ⟨l3, _⟩ := k.cell_of XL.out (i := 3) rfl; have ⟨l4, _⟩ := k.cell_of XL.out (i := 4) rfl; have HRN := lh hr; clear hb hr)) | ((with_reducible refine m_ax_new (w := v2) nA S1 N1 T1 13 26 ?_ ?_ ?_ ?_ ?_ ?_); rfl; rfl; rfl; rfl; rfl; intro w2 x1 hb2 hz2; have XN := lh x1; clear l0 l1 l2 l3 l4; have XL := lh (XL.out.below hb2 hzl); have X := lh (X.out.below hb2 hz); have hzl := Nat.lt_of_lt_of_le hzl hb2.size; have hz := Nat.lt_of_lt_of_le hz hb2.size; have HB := lh (HB.out.trans (hb2.mono HB.out.size)); have HR := lh (HR.out.past hb2); have ⟨l0, _⟩ := k.cell_of XL.out (i := 0) rfl; have ⟨l1, _⟩ := k.cell_of XL.out (i := 1) rfl; have ⟨l2, _⟩ := k.cell_of XL.out (i := 2) rfl; have ⟨l3, _⟩ := k.cell_of XL.out (i := 3) rfl; have ⟨l4, _⟩ := k.cell_of XL.out (i := 4) rfl; have HRN := lh (HRN.out.past hb2); have hzn := hz2; clear x1 hb2) | (go_at_call 11; ((with_reducible refine (CD.out _).mono ?_); rintro e v3 ⟨rfl, hb⟩; clear l0 l1 l2 l3 l4; have XL := lh (XL.out.below hb hzl); have X := lh (X.out.below hb hz); have hzl := Nat.lt_of_lt_of_le hzl hb.size; have hz := Nat.lt_of_lt_of_le hz hb.size; have HB := lh (HB.out.trans (hb.mono HB.out.size)); have HR := lh (HR.out.past hb); have ⟨l0, _⟩ := k.cell_of XL.out (i := 0) rfl; have ⟨l1, _⟩ := k.cell_of XL.out (i := 1) rfl; have ⟨l2, _⟩ := k.cell_of XL.out (i := 2) rfl; have ⟨l3, _⟩ := k.cell_of XL.out (i := 3) rfl; have ⟨l4, _⟩ := k.cell_of XL.out (i := 4) rfl; have XN := lh (XN.out.below hb hzn); have hzn := Nat.lt_of_lt_of_le hzn hb.size; have HRN := lh (HRN.out.past hb); clear hb)) | (go_at_call 12; ((with_reducible refine (CM.out _).mono ?_); rintro e v4 ⟨S2, N2, T2, rfl, hr, hb⟩; clear l0 l1 l2 l3 l4; have XL := lh (XL.out.below hb hzl); have X := lh (X.out.below hb hz); have hzl := Nat.lt_of_lt_of_le hzl hb.size; have hz := Nat.lt_of_lt_of_le hz hb.size; have HB := lh (HB.out.trans (hb.mono HB.out.size)); have HR := lh (HR.out.past hb); have ⟨l0, _⟩ := k.cell_of XL.out (i := 0) rfl; have ⟨l1, _⟩ := k.cell_of XL.out (i := 1) rfl; have ⟨l2, _⟩ := k.cell_of XL.out (i := 2) rfl; have ⟨l3, _⟩ := k.cell_of XL.out (i := 3) rfl; have ⟨l4, _⟩ := k.cell_of XL.out (i := 4) rfl; have XN := lh (XN.out.below hb hzn); have hzn := Nat.lt_of_lt_of_le hzn hb.size; have HRN := lh (HRN.out.past hb); have HRM := lh hr; clear hb hr)) | ((with_reducible refine m_ax_new (w := v4) nA S2 N2 T2 15 39 ?_ ?_ ?_ ?_ ?_ ?_); rfl; rfl; rfl; rfl; rfl; intro w4 x1 hb2 hz2; have XM := lh x1; clear l0 l1 l2 l3 l4; have XL := lh (XL.out.below hb2 hzl); have X := lh (X.out.below hb2 hz); have hzl := Nat.lt_of_lt_of_le hzl hb2.size; have hz := Nat.lt_of_lt_of_le hz hb2.size; have HB := lh (HB.out.trans (hb2.mono HB.out.size)); have HR := lh (HR.out.past hb2); have ⟨l0, _⟩ := k.cell_of XL.out (i := 0) rfl; have ⟨l1, _⟩ := k.cell_of XL.out (i := 1) rfl; have ⟨l2, _⟩ := k.cell_of XL.out (i := 2) rfl; have ⟨l3, _⟩ := k.cell_of XL.out (i := 3) rfl; have ⟨l4, _⟩ := k.cell_of XL.out (i := 4) rfl; have HRN := lh (HRN.out.past hb2); have XN := lh (XN.out.below hb2 hzn); have hzn := Nat.lt_of_lt_of_le hzn hb2.size; have HRM := lh (HRM.out.past hb2); clear x1 hb2) | ((with_reducible refine m_ax_load XN.out 13 ?_ ?_ ?_ ?_); rfl; rfl; rfl; (try simp only [Act.put])) | ((with_reducible refine m_ax_load XM.out 15 ?_ ?_ ?_ ?_); rfl; rfl; rfl; (try simp only [Act.put])) | (go_at_call 13; ((with_reducible refine (refsame_any nA _ HRN.out HRM.out (Nat.le_refl _)).mono ?_); rintro e v5 ⟨rfl, hb⟩; clear l0 l1 l2 l3 l4; have XL := lh (XL.out.below hb hzl); have X := lh (X.out.below hb hz); have hzl := Nat.lt_of_lt_of_le hzl hb.size; have hz := Nat.lt_of_lt_of_le hz hb.size; have HB := lh (HB.out.trans (hb.mono HB.out.size)); have HR := lh (HR.out.past hb); have ⟨l0, _⟩ := k.cell_of XL.out (i := 0) rfl; have ⟨l1, _⟩ := k.cell_of XL.out (i := 1) rfl; have ⟨l2, _⟩ := k.cell_of XL.out (i := 2) rfl; have ⟨l3, _⟩ := k.cell_of XL.out (i := 3) rfl; have ⟨l4, _⟩ := k.cell_of XL.out (i := 4) rfl; have XN := lh (XN.out.below hb hzn); have hzn := Nat.lt_of_lt_of_le hzn hb.size; have HRN := lh (HRN.out.past hb); clear hb)) | (go_at_call 14; ((with_reducible refine (right_any nA GN.out.wide HRN.out (Nat.le_refl _)).mono ?_); rintro e v9 ⟨rfl, hb⟩; rw [rightB_yes GN.out.right]; clear l0 l1 l2 l3 l4; have XL := lh (XL.out.below hb hzl); have X := lh (X.out.below hb hz); have hzl := Nat.lt_of_lt_of_le hzl hb.size; have hz := Nat.lt_of_lt_of_le hz hb.size; have HB := lh (HB.out.trans (hb.mono HB.out.size)); have HR := lh (HR.out.past hb); have ⟨l0, _⟩ := k.cell_of XL.out (i := 0) rfl; have ⟨l1, _⟩ := k.cell_of XL.out (i := 1) rfl; have ⟨l2, _⟩ := k.cell_of XL.out (i := 2) rfl; have ⟨l3, _⟩ := k.cell_of XL.out (i := 3) rfl; have ⟨l4, _⟩ := k.cell_of XL.out (i := 4) rfl; clear hb)))
  clear XN XM HRN HRM CN CD CM GN HK
  by_cases hs : shortP a N.n T.n S.n 0 = true
  ·rw [hs] at HS
   obtain ⟨s1, s2, s3, _⟩ := of_decide_eq_true hs
   have S1 := lh s1
   have S2 := lh s2
   clear hs s1 s2 s3
   by_cases hR : RightA a
   ·have RB := lh (rightB_yes hR)
    have HRA := lh hR
    clear hR
    go_upto_region 13 with (first | ((with_reducible refine m_ax_load X.out 11 ?_ ?_ ?_ ?_); rfl; rfl; rfl; (try simp only [Act.put])) | (go_at_call 15; ((with_reducible refine (HS.out _).mono ?_); rintro e v6 ⟨rfl, hb⟩; clear l0 l1 l2 l3 l4; have XL := lh (XL.out.below hb hzl); have X := lh (X.out.below hb hz); have hzl := Nat.lt_of_lt_of_le hzl hb.size; have hz := Nat.lt_of_lt_of_le hz hb.size; have HB := lh (HB.out.trans (hb.mono HB.out.size)); have HR := lh (HR.out.past hb); have ⟨l0, _⟩ := k.cell_of XL.out (i := 0) rfl; have ⟨l1, _⟩ := k.cell_of XL.out (i := 1) rfl; have ⟨l2, _⟩ := k.cell_of XL.out (i := 2) rfl; have ⟨l3, _⟩ := k.cell_of XL.out (i := 3) rfl; have ⟨l4, _⟩ := k.cell_of XL.out (i := 4) rfl; clear hb)) | (go_at_call 16; ((with_reducible refine (CRR.out _ HR.out (Nat.le_trans S1.out (by decide)) (Nat.le_trans S2.out (by decide))).mono ?_); rintro e v7 ⟨rfl, hb⟩; rw [RB.out]; clear l0 l1 l2 l3 l4; have XL := lh (XL.out.below hb hzl); have X := lh (X.out.below hb hz); have hzl := Nat.lt_of_lt_of_le hzl hb.size; have hz := Nat.lt_of_lt_of_le hz hb.size; have HB := lh (HB.out.trans (hb.mono HB.out.size)); have HR := lh (HR.out.past hb); have ⟨l0, _⟩ := k.cell_of XL.out (i := 0) rfl; have ⟨l1, _⟩ := k.cell_of XL.out (i := 1) rfl; have ⟨l2, _⟩ := k.cell_of XL.out (i := 2) rfl; have ⟨l3, _⟩ := k.cell_of XL.out (i := 3) rfl; have ⟨l4, _⟩ := k.cell_of XL.out (i := 4) rfl; clear hb)))
    obtain ⟨wz, rfl⟩ : ∃ x, x = v7 := ⟨_, rfl⟩
    clear l0 l1 l2 l3 l4
    have K1 := lh fun (W : World) (hb : Below wz.heap.size wz W) => right_any a HW.out (HR.out.past hb) (Nat.le_refl _)
    rw [RB.out] at K1
    have K2 := lh fun (W : World) => bounds_any a S N T W
    have K3 := lh fun (W : World) => refbounds_any a S N T W
    have K4 := lh fun (W : World) (hb : Below wz.heap.size wz W) => out_any a (GoodA.mk HRA.out HW.out.keep) (HR.out.past hb) (Nat.le_refl _)
    have K5 := lh fun (W : World) (hb : Below wz.heap.size wz W) => refout_any a HRA.out S N T W (HR.out.past hb).S (Nat.le_refl _)
    go_upto_region 13 with fail
    refine wp_region_T (by kernel_rfl) (fun w' => Below wz.heap.size wz w') [] (Below.refl _ _).drew (fun hHeld => ?_)
    refine tkv 0 rfl (axV a S N T) (by exact m_y_ax X.out hz 11 rfl rfl rfl) ?_
    try go_simp
    refine tk0 2 rfl ?_ ?_ ?_
    rotate_left
    ·intro; go_simp <;> with_reducible rfl
    try go_simp
    refine ry [1] ?_
    refine ar1 rfl fun K hK => ?_
    go_simp
    (go_at_call 14; ((with_reducible refine (K1.out _ ((Below.refl _ _).drew)).mono ?_); rintro e y1 ⟨rfl, hy1⟩))
    go_wp2_with fail
    have b1 : Below wz.heap.size wz y1 := ((Below.refl _ _).drew).trans hy1
    refine hK.out _ _ b1 (fun hHeld => ?_)
    clear hK K
    try go_simp
    refine tk0 3 rfl ?_ ?_ ?_
    rotate_left
    ·intro; go_simp <;> with_reducible rfl
    try go_simp
    refine tk0 4 rfl ?_ ?_ ?_
    rotate_left
    ·intro; go_simp <;> with_reducible rfl
    try go_simp
    refine tkv 5 rfl (axV a S N T) (by exact m_y_ax X.out hz 11 rfl rfl rfl) ?_
    try go_simp
    refine tkv 7 rfl (axV a S N T) (by exact m_y_ax X.out hz 11 rfl rfl rfl) ?_
    try go_simp
    refine ry [6] ?_
    refine ar1 rfl fun K hK => ?_
    go_simp
    (go_at_call 17; ((with_reducible refine (K2.out _).mono ?_); rintro e y2 ⟨rfl, hy2⟩))
    go_wp2_with fail
    have b2 : Below wz.heap.size wz y2 := b1.trans (hy2.mono b1.size)
    refine hK.out _ _ b2 (fun hHeld => ?_)
    clear hK K
    try go_simp
    refine ry [8] ?_
    refine ar1 rfl fun K hK => ?_
    go_simp
    (go_at_call 18; ((with_reducible refine (K3.out _).mono ?_); rintro e y3 ⟨rfl, hy3⟩))
    go_wp2_with fail
    have b3 : Below wz.heap.size wz y3 := b2.trans (hy3.mono b2.size)
    refine hK.out _ _ b3 (fun hHeld => ?_)
    clear hK K
    try go_simp
    refine tk0 9 rfl ?_ ?_ ?_
    rotate_left
    ·intro; go_simp <;> with_reducible rfl
    try go_simp
    refine tk0 10 rfl ?_ ?_ ?_
    rotate_left
    ·intro; go_simp <;> with_reducible rfl
    try go_simp
    refine tk0 11 rfl ?_ ?_ ?_
    rotate_left
    ·intro; go_simp <;> with_reducible rfl
    try go_simp
    refine tk0 12 rfl ?_ ?_ ?_
    rotate_left
    ·intro; go_simp <;> with_reducible rfl
    try go_simp
    refine tk0 13 rfl ?_ ?_ ?_
    rotate_left
    ·intro; go_simp <;> with_reducible rfl
    try go_simp
    refine tk0 14 rfl ?_ ?_ ?_
    rotate_left
    ·intro; go_simp <;> with_reducible rfl
    try go_simp
    refine tkv 15 rfl (axV a S N T) (by exact m_y_ax X.out hz 11 rfl rfl rfl) ?_
    try go_simp
    refine tkv 17 rfl (axV a S N T) (by exact m_y_ax X.out hz 11 rfl rfl rfl) ?_
    try go_simp
    refine ry [16] ?_
    refine ar1 rfl fun K hK => ?_
    go_simp
    (go_at_call 19; ((with_reducible refine (K4.out _ b3).mono ?_); rintro e y4 ⟨rfl, hy4⟩))
    go_wp2_with fail
    have b4 : Below wz.heap.size wz y4 := b3.trans (hy4.mono b3.size)
    refine hK.out _ _ b4 (fun hHeld => ?_)
    clear hK K
    try go_simp
    refine ry [18] ?_
    refine ar1 rfl fun K hK => ?_
    go_simp
    (go_at_call 20; ((with_reducible refine (K5.out _ b4).mono ?_); rintro e y5 ⟨rfl, hy5⟩))
    go_wp2_with fail
    have b5 : Below wz.heap.size wz y5 := b4.trans (hy5.mono b4.size)
    refine hK.out _ _ b5 (fun hHeld => ?_)
    clear hK K
    try go_simp
    refine tk0 19 rfl ?_ ?_ ?_
    rotate_left
    ·intro; go_simp <;> with_reducible rfl
    try go_simp
    refine tk0 20 rfl ?_ ?_ ?_
    rotate_left
    ·intro; go_simp <;> with_reducible rfl
    try go_simp
    refine tk0 21 rfl ?_ ?_ ?_
    rotate_left
    ·intro; go_simp <;> with_reducible rfl
    try go_simp
    refine tk0 22 rfl ?_ ?_ ?_
    rotate_left
    ·intro; go_simp <;> with_reducible rfl
    try go_simp
    refine wpAnyT_done (by kernel_rfl) ?_ _
    go_wp2
    go_ret
    exact ⟨rfl, HB.out.trans (b5.mono HB.out.size)⟩
   ·have RB := lh (rightB_no hR)
    clear hR
    go_upto_region 13 with (first | ((with_reducible refine m_ax_load X.out 11 ?_ ?_ ?_ ?_); rfl; rfl; rfl; (try simp only [Act.put])) | (go_at_call 15; ((with_reducible refine (HS.out _).mono ?_); rintro e v6 ⟨rfl, hb⟩; clear l0 l1 l2 l3 l4; have XL := lh (XL.out.below hb hzl); have X := lh (X.out.below hb hz); have hzl := Nat.lt_of_lt_of_le hzl hb.size; have hz := Nat.lt_of_lt_of_le hz hb.size; have HB := lh (HB.out.trans (hb.mono HB.out.size)); have HR := lh (HR.out.past hb); have ⟨l0, _⟩ := k.cell_of XL.out (i := 0) rfl; have ⟨l1, _⟩ := k.cell_of XL.out (i := 1) rfl; have ⟨l2, _⟩ := k.cell_of XL.out (i := 2) rfl; have ⟨l3, _⟩ := k.cell_of XL.out (i := 3) rfl; have ⟨l4, _⟩ := k.cell_of XL.out (i := 4) rfl; clear hb)) | (go_at_call 16; ((with_reducible refine (CRR.out _ HR.out (Nat.le_trans S1.out (by decide)) (Nat.le_trans S2.out (by decide))).mono ?_); rintro e v7 ⟨rfl, hb⟩; rw [RB.out]; clear l0 l1 l2 l3 l4; have XL := lh (XL.out.below hb hzl); have X := lh (X.out.below hb hz); have hzl := Nat.lt_of_lt_of_le hzl hb.size; have hz := Nat.lt_of_lt_of_le hz hb.size; have HB := lh (HB.out.trans (hb.mono HB.out.size)); have HR := lh (HR.out.past hb); have ⟨l0, _⟩ := k.cell_of XL.out (i := 0) rfl; have ⟨l1, _⟩ := k.cell_of XL.out (i := 1) rfl; have ⟨l2, _⟩ := k.cell_of XL.out (i := 2) rfl; have ⟨l3, _⟩ := k.cell_of XL.out (i := 3) rfl; have ⟨l4, _⟩ := k.cell_of XL.out (i := 4) rfl; clear hb)))
    obtain ⟨wz, rfl⟩ : ∃ x, x = v7 := ⟨_, rfl⟩
    clear l0 l1 l2 l3 l4
    have K1 := lh fun (W : World) (hb : Below wz.heap.size wz W) => right_any a HW.out (HR.out.past hb) (Nat.le_refl _)
    rw [RB.out] at K1
    have K2 := lh fun (W : World) => bounds_any a S N T W
    have K3 := lh fun (W : World) => refbounds_any a S N T W
    go_upto_region 13 with fail
    refine wp_region_T (by kernel_rfl) (fun w' => Below wz.heap.size wz w') [] (Below.refl _ _).drew (fun hHeld => ?_)
    refine tkv 0 rfl (axV a S N T) (by exact m_y_ax X.out hz 11 rfl rfl rfl) ?_
    try go_simp
    refine tk0 2 rfl ?_ ?_ ?_
    rotate_left
    ·intro; go_simp <;> with_reducible rfl
    try go_simp
    refine ry [1] ?_
    refine ar1 rfl fun K hK => ?_
    go_simp
    (go_at_call 14; ((with_reducible refine (K1.out _ ((Below.refl _ _).drew)).mono ?_); rintro e y1 ⟨rfl, hy1⟩))
    go_wp2_with fail
    have b1 : Below wz.heap.size wz y1 := ((Below.refl _ _).drew).trans hy1
    refine hK.out _ _ b1 (fun hHeld => ?_)
    clear hK K
    try go_simp
    refine tk0 3 rfl ?_ ?_ ?_
    rotate_left
    ·intro; go_simp <;> with_reducible rfl
    try go_simp
    refine tk0 4 rfl ?_ ?_ ?_
    rotate_left
    ·intro; go_simp <;> with_reducible rfl
    try go_simp
    refine tkv 5 rfl (axV a S N T) (by exact m_y_ax X.out hz 11 rfl rfl rfl) ?_
    try go_simp
    refine tkv 7 rfl (axV a S N T) (by exact m_y_ax X.out hz 11 rfl rfl rfl) ?_
    try go_simp
    refine ry [6] ?_
    refine ar1 rfl fun K hK => ?_
    go_simp
    (go_at_call 17; ((with_reducible refine (K2.out _).mono ?_); rintro e y2 ⟨rfl, hy2⟩))
    go_wp2_with fail
    have b2 : Below wz.heap.size wz y2 := b1.trans (hy2.mono b1.size)
    refine hK.out _ _ b2 (fun hHeld => ?_)
    clear hK K
    try go_simp
    refine ry [8] ?_
    refine ar1 rfl fun K hK => ?_
    go_simp
    (go_at_call 18; ((with_reducible refine (K3.out _).mono ?_); rintro e y3 ⟨rfl, hy3⟩))
    go_wp2_with fail
    have b3 : Below wz.heap.size wz y3 := b2.trans (hy3.mono b2.size)
    refine hK.out _ _ b3 (fun hHeld => ?_)
    clear hK K
    try go_simp
    refine tk0 9 rfl ?_ ?_ ?_
    rotate_left
    ·intro; go_simp <;> with_reducible rfl
    try go_simp
    refine tk0 10 rfl ?_ ?_ ?_
    rotate_left
    ·intro; go_simp <;> with_reducible rfl
    try go_simp
    refine tk0 11 rfl ?_ ?_ ?_
    rotate_left
    ·intro; go_simp <;> with_reducible rfl
    try go_simp
    refine tk0 12 rfl ?_ ?_ ?_
    rotate_left
    ·intro; go_simp <;> with_reducible rfl
    try go_simp
    refine tk0 13 rfl ?_ ?_ ?_
    rotate_left
    ·intro; go_simp <;> with_reducible rfl
    try go_simp
    refine tk0 14 rfl ?_ ?_ ?_
    rotate_left
    ·intro; go_simp <;> with_reducible rfl
    try go_simp
    refine tks 15 rfl ?_
    refine tks 16 rfl ?_
    refine tks 17 rfl ?_
    refine tks 18 rfl ?_
    refine tks 19 rfl ?_
    try go_simp
    refine tk0 20 rfl ?_ ?_ ?_
    rotate_left
    ·intro; go_simp <;> with_reducible rfl
    try go_simp
    refine tk0 21 rfl ?_ ?_ ?_
    rotate_left
    ·intro; go_simp <;> with_reducible rfl
    try go_simp
    refine tk0 22 rfl ?_ ?_ ?_
    rotate_left
    ·intro; go_simp <;> with_reducible rfl
    try go_simp
    refine wpAnyT_done (by kernel_rfl) ?_ _
    go_wp2
    go_ret
    exact ⟨rfl, HB.out.trans (b3.mono HB.out.size)⟩
  ·rw [Bool.not_eq_true] at hs
   rw [hs] at HS
   clear hs
   go_wp2_with (first | ((with_reducible refine m_ax_load X.out 11 ?_ ?_ ?_ ?_); rfl; rfl; rfl; (try simp only [Act.put])) | (go_at_call 15; ((with_reducible refine (HS.out _).mono ?_); rintro e v6 ⟨rfl, hb⟩; clear l0 l1 l2 l3 l4; have XL := lh (XL.out.below hb hzl); have X := lh (X.out.below hb hz); have hzl := Nat.lt_of_lt_of_le hzl hb.size; have hz := Nat.lt_of_lt_of_le hz hb.size; have HB := lh (HB.out.trans (hb.mono HB.out.size)); have HR := lh (HR.out.past hb); have ⟨l0, _⟩ := k.cell_of XL.out (i := 0) rfl; have ⟨l1, _⟩ := k.cell_of XL.out (i := 1) rfl; have ⟨l2, _⟩ := k.cell_of XL.out (i := 2) rfl; have ⟨l3, _⟩ := k.cell_of XL.out (i := 3) rfl; have ⟨l4, _⟩ := k.cell_of XL.out (i := 4) rfl; clear hb)))
   go_ret
   exact ⟨rfl, HB.out⟩
 ·have e1 : newOf l win ha f cr = zeroA := if_neg hm
  have e2 : newE l win ha f cr = 1 := if_neg hm
  unfold GotN at CN
  rw [e1, e2] at CN
  rw [made_no hm] at CD
  clear e1 e2 hm
  go_enter Tryz.func3, Tryz.ntmps3
  go_upto_region 10 with (first | (go_at_call 9; ((with_reducible refine (HK.out _).mono ?_); rintro e v1 ⟨rfl, hb⟩; obtain ⟨x0, x1, hbb, hz⟩ := k.boxes2 hb; have XL : Hid (k.Box v1 w.heap.size 0 (lmC l)) := lh x0; have X : Hid (k.Box v1 (w.heap.size + 1) 0 (axC a S N T)) := lh x1; have hzl : w.heap.size < v1.heap.size := (by omega); have HB := lh hbb; have HR := lh (HR.out.past hbb); have ⟨l0, _⟩ := k.cell_of XL.out (i := 0) rfl; have ⟨l1, _⟩ := k.cell_of XL.out (i := 1) rfl; have ⟨l2, _⟩ := k.cell_of XL.out (i := 2) rfl; have ⟨l3, _⟩ := k.cell_of XL.out (i := 3) rfl; have ⟨l4, _⟩ := k.cell_of XL.out (i := 4) rfl; clear x0 x1 hb hbb)) | (go_at_call 10; ((with_reducible refine (CN.out _).mono ?_); rintro e v2 ⟨S1, N1, T1, rfl, hr, hb⟩; clear l0 l1 l2 l3 l4; have XL := lh (XL.out.below hb hzl); have X := lh (X.out.below hb hz); have hzl := Nat.lt_of_lt_of_le hzl hb.size; have hz := Nat.lt_of_lt_of_le hz hb.size; have HB := lh (HB.out.trans (hb.mono HB.out.size)); have HR := lh (HR.out.past hb); have ⟨l0, _⟩ := k.cell_of XL.out (i := 0) rfl; have ⟨l1, _⟩ := k.cell_of XL.out (i := 1) rfl; have ⟨l2, _⟩ := k.cell_of XL.out (i := 2) rfl; have ⟨l3, _⟩ := k.cell_of XL.out (i := 3) rfl; have ⟨l4, _⟩ := k.cell_of XL.out (i := 4) rfl; have HRN := lh hr; clear hb hr)) | ((with_reducible refine m_ax_new (w := v2) zeroA S1 N1 T1 13 26 ?_ ?_ ?_ ?_ ?_ ?_); rfl; rfl; rfl; rfl; rfl; intro w2 x1 hb2 hz2; have XN := lh x1; clear l0 l1 l2 l3 l4; have XL := lh (XL.out.below hb2 hzl); have X := lh (X.out.below hb2 hz); have hzl := Nat.lt_of_lt_of_le hzl hb2.size; have hz := Nat.lt_of_lt_of_le hz hb2.size; have HB := lh (HB.out.trans (hb2.mono HB.out.size)); have HR := lh (HR.out.past hb2); have ⟨l0, _⟩ := k.cell_of XL.out (i := 0) rfl; have ⟨l1, _⟩ := k.cell_of XL.out (i := 1) rfl; have ⟨l2, _⟩ := k.cell_of XL.out (i := 2) rfl; have ⟨l3, _⟩ := k.cell_of XL.out (i := 3) rfl; have ⟨l4, _⟩ := k.cell_of XL.out (i := 4) rfl; have HRN := lh (HRN.out.past hb2); have hzn := hz2; clear x1 hb2) | (go_at_call 11; ((with_reducible refine (CD.out _).mono ?_); rintro e v3 ⟨rfl, hb⟩; clear l0 l1 l2 l3 l4; have XL := lh (XL.out.below hb hzl); have X := lh (X.out.below hb hz); have hzl := Nat.lt_of_lt_of_le hzl hb.size; have hz := Nat.lt_of_lt_of_le hz hb.size; have HB := lh (HB.out.trans (hb.mono HB.out.size)); have HR := lh (HR.out.past hb); have ⟨l0, _⟩ := k.cell_of XL.out (i := 0) rfl; have ⟨l1, _⟩ := k.cell_of XL.out (i := 1) rfl; have ⟨l2, _⟩ := k.cell_of XL.out (i := 2) rfl; have ⟨l3, _⟩ := k.cell_of XL.out (i := 3) rfl; have ⟨l4, _⟩ := k.cell_of XL.out (i := 4) rfl; have XN := lh (XN.out.below hb hzn); have hzn := Nat.lt_of_lt_of_le hzn hb.size; have HRN := lh (HRN.out.past hb); clear hb)) | ((with_reducible refine m_ax_load XN.out 13 ?_ ?_ ?_ ?_); rfl; rfl; rfl; (try simp only [Act.put])) | (go_at_call 13; ((with_reducible refine (CZ.out _ _ _ _ HRN.out).mono ?_); rintro e v5 ⟨rfl, hb⟩; clear l0 l1 l2 l3 l4; have XL := lh (XL.out.below hb hzl); have X := lh (X.out.below hb hz); have hzl := Nat.lt_of_lt_of_le hzl hb.size; have hz := Nat.lt_of_lt_of_le hz hb.size; have HB := lh (HB.out.trans (hb.mono HB.out.size)); have HR := lh (HR.out.past hb); have ⟨l0, _⟩ := k.cell_of XL.out (i := 0) rfl; have ⟨l1, _⟩ := k.cell_of XL.out (i := 1) rfl; have ⟨l2, _⟩ := k.cell_of XL.out (i := 2) rfl; have ⟨l3, _⟩ := k.cell_of XL.out (i := 3) rfl; have ⟨l4, _⟩ := k.cell_of XL.out (i := 4) rfl; clear hb)))
  clear XN HRN CN CD HK
  by_cases hs : shortP a N.n T.n S.n 0 = true
  ·rw [hs] at HS
   obtain ⟨s1, s2, s3, _⟩ := of_decide_eq_true hs
   have S1 := lh s1
   have S2 := lh s2
   clear hs s1 s2 s3
   by_cases hR : RightA a
   ·have RB := lh (rightB_yes hR)
    have HRA := lh hR
    clear hR
    go_upto_region 13 with (first | ((with_reducible refine m_ax_load X.out 11 ?_ ?_ ?_ ?_); rfl; rfl; rfl; (try simp only [Act.put])) | (go_at_call 15; ((with_reducible refine (HS.out _).mono ?_); rintro e v6 ⟨rfl, hb⟩; clear l0 l1 l2 l3 l4; have XL := lh (XL.out.below hb hzl); have X := lh (X.out.below hb hz); have hzl := Nat.lt_of_lt_of_le hzl hb.size; have hz := Nat.lt_of_lt_of_le hz hb.size; have HB := lh (HB.out.trans (hb.mono HB.out.size)); have HR := lh (HR.out.past hb); have ⟨l0, _⟩ := k.cell_of XL.out (i := 0) rfl; have ⟨l1, _⟩ := k.cell_of XL.out (i := 1) rfl; have ⟨l2, _⟩ := k.cell_of XL.out (i := 2) rfl; have ⟨l3, _⟩ := k.cell_of XL.out (i := 3) rfl; have ⟨l4, _⟩ := k.cell_of XL.out (i := 4) rfl; clear hb)) | (go_at_call 16; ((with_reducible refine (CRR.out _ HR.out (Nat.le_trans S1.out (by decide)) (Nat.le_trans S2.out (by decide))).mono ?_); rintro e v7 ⟨rfl, hb⟩; rw [RB.out]; clear l0 l1 l2 l3 l4; have XL := lh (XL.out.below hb hzl); have X := lh (X.out.below hb hz); have hzl := Nat.lt_of_lt_of_le hzl hb.size; have hz := Nat.lt_of_lt_of_le hz hb.size; have HB := lh (HB.out.trans (hb.mono HB.out.size)); have HR := lh (HR.out.past hb); have ⟨l0, _⟩ := k.cell_of XL.out (i := 0) rfl; have ⟨l1, _⟩ := k.cell_of XL.out (i := 1) rfl; have ⟨l2, _⟩ := k.cell_of XL.out (i := 2) rfl; have ⟨l3, _⟩ := k.cell_of XL.out (i := 3) rfl; have ⟨l4, _⟩ := k.cell_of XL.out (i := 4) rfl; clear hb)))
    obtain ⟨wz, rfl⟩ : ∃ x, x = v7 := ⟨_, rfl⟩
    clear l0 l1 l2 l3 l4
    have K1 := lh fun (W : World) (hb : Below wz.heap.size wz W) => right_any a HW.out (HR.out.past hb) (Nat.le_refl _)
    rw [RB.out] at K1
    have K2 := lh fun (W : World) => bounds_any a S N T W
    have K3 := lh fun (W : World) => refbounds_any a S N T W
    have K4 := lh fun (W : World) (hb : Below wz.heap.size wz W) => out_any a (GoodA.mk HRA.out HW.out.keep) (HR.out.past hb) (Nat.le_refl _)
    have K5 := lh fun (W : World) (hb : Below wz.heap.size wz W) => refout_any a HRA.out S N T W (HR.out.past hb).S (Nat.le_refl _)
    go_upto_region 13 with fail
    refine wp_region_T (by kernel_rfl) (fun w' => Below wz.heap.size wz w') [] (Below.refl _ _).drew (fun hHeld => ?_)
    refine tkv 0 rfl (axV a S N T) (by exact m_y_ax X.out hz 11 rfl rfl rfl) ?_
    try go_simp
    refine tk0 2 rfl ?_ ?_ ?_
    rotate_left
    ·intro; go_simp <;> with_reducible rfl
    try go_simp
    refine ry [1] ?_
    refine ar1 rfl fun K hK => ?_
    go_simp
    (go_at_call 14; ((with_reducible refine (K1.out _ ((Below.refl _ _).drew)).mono ?_); rintro e y1 ⟨rfl, hy1⟩))
    go_wp2_with fail
    have b1 : Below wz.heap.size wz y1 := ((Below.refl _ _).drew).trans hy1
    refine hK.out _ _ b1 (fun hHeld => ?_)
    clear hK K
    try go_simp
    refine tk0 3 rfl ?_ ?_ ?_
    rotate_left
    ·intro; go_simp <;> with_reducible rfl
    try go_simp
    refine tk0 4 rfl ?_ ?_ ?_
    rotate_left
    ·intro; go_simp <;> with_reducible rfl
    try go_simp
    refine tkv 5 rfl (axV a S N T) (by exact m_y_ax X.out hz 11 rfl rfl rfl) ?_
    try go_simp
    refine tkv 7 rfl (axV a S N T) (by exact m_y_ax X.out hz 11 rfl rfl rfl) ?_
    try go_simp
    refine ry [6] ?_
    refine ar1 rfl fun K hK => ?_
    go_simp
    (go_at_call 17; ((with_reducible refine (K2.out _).mono ?_); rintro e y2 ⟨rfl, hy2⟩))
    go_wp2_with fail
    have b2 : Below wz.heap.size wz y2 := b1.trans (hy2.mono b1.size)
    refine hK.out _ _ b2 (fun hHeld => ?_)
    clear hK K
    try go_simp
    refine ry [8] ?_
    refine ar1 rfl fun K hK => ?_
    go_simp
    (go_at_call 18; ((with_reducible refine (K3.out _).mono ?_); rintro e y3 ⟨rfl, hy3⟩))
    go_wp2_with fail
    have b3 : Below wz.heap.size wz y3 := b2.trans (hy3.mono b2.size)
    refine hK.out _ _ b3 (fun hHeld => ?_)
    clear hK K
    try go_simp
    refine tk0 9 rfl ?_ ?_ ?_
    rotate_left
    ·intro; go_simp <;> with_reducible rfl
    try go_simp
    refine tk0 10 rfl ?_ ?_ ?_
    rotate_left
    ·intro; go_simp <;> with_reducible rfl
    try go_simp
    refine tk0 11 rfl ?_ ?_ ?_
    rotate_left
    ·intro; go_simp <;> with_reducible rfl
    try go_simp
    refine tk0 12 rfl ?_ ?_ ?_
    rotate_left
    ·intro; go_simp <;> with_reducible rfl
    try go_simp
    refine tk0 13 rfl ?_ ?_ ?_
    rotate_left
    ·intro; go_simp <;> with_reducible rfl
    try go_simp
    refine tk0 14 rfl ?_ ?_ ?_
    rotate_left
    ·intro; go_simp <;> with_reducible rfl
    try go_simp
    refine tkv 15 rfl (axV a S N T) (by exact m_y_ax X.out hz 11 rfl rfl rfl) ?_
    try go_simp
    refine tkv 17 rfl (axV a S N T) (by exact m_y_ax X.out hz 11 rfl rfl rfl) ?_
    try go_simp
    refine ry [16] ?_
    refine ar1 rfl fun K hK => ?_
    go_simp
    (go_at_call 19; ((with_reducible refine (K4.out _ b3).mono ?_); rintro e y4 ⟨rfl, hy4⟩))
    go_wp2_with fail
    have b4 : Below wz.heap.size wz y4 := b3.trans (hy4.mono b3.size)
    refine hK.out _ _ b4 (fun hHeld => ?_)
    clear hK K
    try go_simp
    refine ry [18] ?_
    refine ar1 rfl fun K hK => ?_
    go_simp
    (go_at_call 20; ((with_reducible refine (K5.out _ b4).mono ?_); rintro e y5 ⟨rfl, hy5⟩))
    go_wp2_with fail
    have b5 : Below wz.heap.size wz y5 := b4.trans (hy5.mono b4.size)
    refine hK.out _ _ b5 (fun hHeld => ?_)
    clear hK K
    try go_simp
    refine tk0 19 rfl ?_ ?_ ?_
    rotate_left
    ·intro; go_simp <;> with_reducible rfl
    try go_simp
    refine tk0 20 rfl ?_ ?_ ?_
    rotate_left
    ·intro; go_simp <;> with_reducible rfl
    try go_simp
    refine tk0 21 rfl ?_ ?_ ?_
    rotate_left
    ·intro; go_simp <;> with_reducible rfl
    try go_simp
    refine tk0 22 rfl ?_ ?_ ?_
    rotate_left
    ·intro; go_simp <;> with_reducible rfl
    try go_simp
    refine wpAnyT_done (by kernel_rfl) ?_ _
    go_wp2
    go_ret
    exact ⟨rfl, HB.out.trans (b5.mono HB.out.size)⟩
   ·have RB := lh (rightB_no hR)
    clear hR
    go_upto_region 13 with (first | ((with_reducible refine m_ax_load X.out 11 ?_ ?_ ?_ ?_); rfl; rfl; rfl; (try simp only [Act.put])) | (go_at_call 15; ((with_reducible refine (HS.out _).mono ?_); rintro e v6 ⟨rfl, hb⟩; clear l0 l1 l2 l3 l4; have XL := lh (XL.out.below hb hzl); have X := lh (X.out.below hb hz); have hzl := Nat.lt_of_lt_of_le hzl hb.size; have hz := Nat.lt_of_lt_of_le hz hb.size; have HB := lh (HB.out.trans (hb.mono HB.out.size)); have HR := lh (HR.out.past hb); have ⟨l0, _⟩ := k.cell_of XL.out (i := 0) rfl; have ⟨l1, _⟩ := k.cell_of XL.out (i := 1) rfl; have ⟨l2, _⟩ := k.cell_of XL.out (i := 2) rfl; have ⟨l3, _⟩ := k.cell_of XL.out (i := 3) rfl; have ⟨l4, _⟩ := k.cell_of XL.out (i := 4) rfl; clear hb)) | (go_at_call 16; ((with_reducible refine (CRR.out _ HR.out (Nat.le_trans S1.out (by decide)) (Nat.le_trans S2.out (by decide))).mono ?_); rintro e v7 ⟨rfl, hb⟩; rw [RB.out]; clear l0 l1 l2 l3 l4; have XL := lh (XL.out.below hb hzl); have X := lh (X.out.below hb hz); have hzl := Nat.lt_of_lt_of_le hzl hb.size; have hz := Nat.lt_of_lt_of_le hz hb.size; have HB := lh (HB.out.trans (hb.mono HB.out.size)); have HR := lh (HR.out.past hb); have ⟨l0, _⟩ := k.cell_of XL.out (i := 0) rfl; have ⟨l1, _⟩ := k.cell_of XL.out (i := 1) rfl; have ⟨l2, _⟩ := k.cell_of XL.out (i := 2) rfl; have ⟨l3, _⟩ := k.cell_of XL.out (i := 3) rfl; have ⟨l4, _⟩ := k.cell_of XL.out (i := 4) rfl; clear hb)))
    obtain ⟨wz, rfl⟩ : ∃ x, x = v7 := ⟨_, rfl⟩
    clear l0 l1 l2 l3 l4
    have K1 := lh fun (W : World) (hb : Below wz.heap.size wz W) => right_any a HW.out (HR.out.past hb) (Nat.le_refl _)
    rw [RB.out] at K1
    have K2 := lh fun (W : World) => bounds_any a S N T W
    have K3 := lh fun (W : World) => refbounds_any a S N T W
    go_upto_region 13 with fail
    refine wp_region_T (by kernel_rfl) (fun w' => Below wz.heap.size wz w') [] (Below.refl _ _).drew (fun hHeld => ?_)
    refine tkv 0 rfl (axV a S N T) (by exact m_y_ax X.out hz 11 rfl rfl rfl) ?_
    try go_simp
    refine tk0 2 rfl ?_ ?_ ?_
    rotate_left
    ·intro; go_simp <;> with_reducible rfl
    try go_simp
    refine ry [1] ?_
    refine ar1 rfl fun K hK => ?_
    go_simp
    (go_at_call 14; ((with_reducible refine (K1.out _ ((Below.refl _ _).drew)).mono ?_); rintro e y1 ⟨rfl, hy1⟩))
    go_wp2_with fail
    have b1 : Below wz.heap.size wz y1 := ((Below.refl _ _).drew).trans hy1
    refine hK.out _ _ b1 (fun hHeld => ?_)
    clear hK K
    try go_simp
    refine tk0 3 rfl ?_ ?_ ?_
    rotate_left
    ·intro; go_simp <;> with_reducible rfl
    try go_simp
    refine tk0 4 rfl ?_ ?_ ?_
    rotate_left
    ·intro; go_simp <;> with_reducible rfl
    try go_simp
    refine tkv 5 rfl (axV a S N T) (by exact m_y_ax X.out hz 11 rfl rfl rfl) ?_
    try go_simp
    refine tkv 7 rfl (axV a S N T) (by exact m_y_ax X.out hz 11 rfl rfl rfl) ?_
    try go_simp
    refine ry [6] ?_
    refine ar1 rfl fun K hK => ?_
    go_simp
    (go_at_call 17; ((with_reducible refine (K2.out _).mono ?_); rintro e y2 ⟨rfl, hy2⟩))
    go_wp2_with fail
    have b2 : Below wz.heap.size wz y2 := b1.trans (hy2.mono b1.size)
    refine hK.out _ _ b2 (fun hHeld => ?_)
    clear hK K
    try go_simp
    refine ry [8] ?_
    refine ar1 rfl fun K hK => ?_
    go_simp
    (go_at_call 18; ((with_reducible refine (K3.out _).mono ?_); rintro e y3 ⟨rfl, hy3⟩))
    go_wp2_with fail
    have b3 : Below wz.heap.size wz y3 := b2.trans (hy3.mono b2.size)
    refine hK.out _ _ b3 (fun hHeld => ?_)
    clear hK K
    try go_simp
    refine tk0 9 rfl ?_ ?_ ?_
    rotate_left
    ·intro; go_simp <;> with_reducible rfl
    try go_simp
    refine tk0 10 rfl ?_ ?_ ?_
    rotate_left
    ·intro; go_simp <;> with_reducible rfl
    try go_simp
    refine tk0 11 rfl ?_ ?_ ?_
    rotate_left
    ·intro; go_simp <;> with_reducible rfl
    try go_simp
    refine tk0 12 rfl ?_ ?_ ?_
    rotate_left
    ·intro; go_simp <;> with_reducible rfl
    try go_simp
    refine tk0 13 rfl ?_ ?_ ?_
    rotate_left
    ·intro; go_simp <;> with_reducible rfl
    try go_simp
    refine tk0 14 rfl ?_ ?_ ?_
    rotate_left
    ·intro; go_simp <;> with_reducible rfl
    try go_simp
    refine tks 15 rfl ?_
    refine tks 16 rfl ?_
    refine tks 17 rfl ?_
    refine tks 18 rfl ?_
    refine tks 19 rfl ?_
    try go_simp
    refine tk0 20 rfl ?_ ?_ ?_
    rotate_left
    ·intro; go_simp <;> with_reducible rfl
    try go_simp
    refine tk0 21 rfl ?_ ?_ ?_
    rotate_left
    ·intro; go_simp <;> with_reducible rfl
    try go_simp
    refine tk0 22 rfl ?_ ?_ ?_
    rotate_left
    ·intro; go_simp <;> with_reducible rfl
    try go_simp
    refine wpAnyT_done (by kernel_rfl) ?_ _
    go_wp2
    go_ret
    exact ⟨rfl, HB.out.trans (b3.mono HB.out.size)⟩
  ·rw [Bool.not_eq_true] at hs
   rw [hs] at HS
   clear hs
   go_wp2_with (first | ((with_reducible refine m_ax_load X.out 11 ?_ ?_ ?_ ?_); rfl; rfl; rfl; (try simp only [Act.put])) | (go_at_call 15; ((with_reducible refine (HS.out _).mono ?_); rintro e v6 ⟨rfl, hb⟩; clear l0 l1 l2 l3 l4; have XL := lh (XL.out.below hb hzl); have X := lh (X.out.below hb hz); have hzl := Nat.lt_of_lt_of_le hzl hb.size; have hz := Nat.lt_of_lt_of_le hz hb.size; have HB := lh (HB.out.trans (hb.mono HB.out.size)); have HR := lh (HR.out.past hb); have ⟨l0, _⟩ := k.cell_of XL.out (i := 0) rfl; have ⟨l1, _⟩ := k.cell_of XL.out (i := 1) rfl; have ⟨l2, _⟩ := k.cell_of XL.out (i := 2) rfl; have ⟨l3, _⟩ := k.cell_of XL.out (i := 3) rfl; have ⟨l4, _⟩ := k.cell_of XL.out (i := 4) rfl; clear hb)))
   go_ret
   exact ⟨rfl, HB.out⟩
theorem walk (l0 l1 l2 l3 l4 win ha f cr : Int) (x0 x1 x2 x3 x4 x5 x6 x7 x8 x9 x10 x11 : Int) (x12a : Option Addr) (x12l x12c : Nat) (x12z : List Int) (x13 : Int) (x14a : Option Addr) (x14l x14c : Nat) (x15a : Option Addr) (x15l x15c : Nat) (x16 : Bool) (x17 x18 x19 : Int) (x20 : Bool) (x21 x22 x23 x24 : Int) (x25 : Bool) (w : World) (v0 : (Lit.int .i64 l0).wf = true) (v1 : (Lit.int .i64 l1).wf = true) (v2 : (Lit.int .i64 l2).wf = true) (v3 : (Lit.int .i64 l3).wf = true) (v4 : (Lit.int .i64 l4).wf = true) (v5 : (Lit.int .i64 win).wf = true) (v6 : (Lit.int .i64 ha).wf = true) (v7 : (Lit.int .i64 f).wf = true) (v8 : (Lit.int .i64 cr).wf = true) (u0 : (Lit.int .i64 x0).wf = true) (u1 : (Lit.int .i64 x1).wf = true) (u2 : (Lit.int .i64 x2).wf = true) (u3 : (Lit.int .i64 x3).wf = true) (u4 : (Lit.int .i64 x4).wf = true) (u5 : (Lit.int .i64 x5).wf = true) (u6 : (Lit.int .i64 x6).wf = true) (u7 : (Lit.int .i64 x7).wf = true) (u8 : (Lit.int .i64 x8).wf = true) (u9 : (Lit.int .i64 x9).wf = true) (u10 : (Lit.int .i64 x10).wf = true) (u11 : (Lit.int .i64 x11).wf = true) (u12 : IsRow .i64 w x12a x12l x12c x12z) (u13 : (Lit.int .i64 x13).wf = true) (u14 : IsRecs w 7 x14a x14l x14c) (u15 : IsRecs w 7 x15a x15l x15c) (u17 : (Lit.int .i64 x17).wf = true) (u18 : (Lit.int .i64 x18).wf = true) (u19 : (Lit.int .i64 x19).wf = true) (u21 : (Lit.int .i64 x21).wf = true) (u22 : (Lit.int .i64 x22).wf = true) (u23 : (Lit.int .i64 x23).wf = true) (u24 : (Lit.int .i64 x24).wf = true) :
  Calls Tryz.prog 3 #[.agg #[.int .i64 l0, .int .i64 l1, .int .i64 l2, .int .i64 l3, .int .i64 l4], .int .i64 win, .int .i64 ha, .int .i64 f, .int .i64 cr, .agg #[.int .i64 x0, .int .i64 x1, .int .i64 x2, .int .i64 x3, .int .i64 x4, .int .i64 x5, .int .i64 x6, .int .i64 x7, .int .i64 x8, .int .i64 x9, .int .i64 x10, .int .i64 x11, .slice x12a x12l x12c, .int .i64 x13, .slice x14a x14l x14c, .slice x15a x15l x15c, .bool x16, .int .i64 x17, .int .i64 x18, .int .i64 x19, .bool x20, .int .i64 x21, .int .i64 x22, .int .i64 x23, .int .i64 x24, .bool x25]] w fun e w' => e = .returned (.bool true) ∧ Below w.heap.size w w' := by
 obtain ⟨a, S, N, T, e, hr, hw⟩ := par_axis x0 x1 x2 x3 x4 x5 x6 x7 x8 x9 x10 x11 x12a x12l x12c x12z x13 x14a x14l x14c x15a x15l x15c x16 x17 x18 x19 x20 x21 x22 x23 x24 x25 w u0 u1 u2 u3 u4 u5 u6 u7 u8 u9 u10 u11 u12 u13 u14 u15 u17 u18 u19 u21 u22 u23 u24
 rw [e]
 exact walk_in ⟨l0, l1, l2, l3, l4⟩ win ha f cr a S N T w ⟨wf64 v0, wf64 v1, wf64 v2, wf64 v3, wf64 v4⟩ (wf64 v5) (wf64 v6) (wf64 v7) (wf64 v8) hr hw
end Go.Proofs.YtijlccblabadaaaGreat.axisMade
