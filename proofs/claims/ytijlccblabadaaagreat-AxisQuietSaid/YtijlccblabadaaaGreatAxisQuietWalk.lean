/- The walk of the law AxisQuiet: any axis: it returns true, and what was in memory is as it was. -/
import Derived.Test.YtijlccblabadaaaGreatV15
import Derived.Test.YtijlccblabadaaaGreatU18
import Derived.Test.YtijlccblabadaaaGreatU14
import Derived.Test.YtijlccblabadaaaGreatU12
import Derived.Test.YtijlccblabadaaaGreatX01
namespace Go.Proofs.YtijlccblabadaaaGreat.axisQuiet
set_option maxRecDepth 100000
open Go.ChangeShapes Go.WideShapes Go.ChangeAt Go.RowKit Go.Proofs.YtijlccblabadaaaGreat.k Go.Proofs.YtijlccblabadaaaGreat.rr Go.Proofs.YtijlccblabadaaaGreat.ax Go.Proofs.YtijlccblabadaaaGreat
open Go.Proofs.YtijlccblabadaaaGreat.ln (C RdC RdI)
set_option linter.unusedVariables false
/-- what comes: power -/
def quietI (o : Int) (x : Bool) : In := ⟨true, true, 0, 0, !x, x, x, false, false, o, 0, []⟩
theorem quietI_wide {o : Int} (h : InR o) (x : Bool) : WideI (quietI o x) := by
 have z : InR 0 := ⟨by omega, by omega⟩
 exact ⟨z, z, h, z, fun x hx => by cases hx⟩
set_option maxRecDepth 100000 in
set_option maxHeartbeats 4000000 in
theorem walk_in (a : Ax) (S N T : Sl) (q : Int) (x : Bool) (w : World) (hr : RdA w w.heap.size a S N T) (hw : WideA a) (hq0 : 0 ≤ q) (hq1 : q ≤ 255) :
  Calls Tryz.prog 8 #[axV a S N T, .int .u8 q, .bool x] w fun e w' => e = .returned (.bool true) ∧ Below w.heap.size w w' := by
 have HK := lh fun W => awake_any W
 have HS := lh fun (W : World) => refshort_any a S N T ⟨false, false, 0, 0, false, false, false, false, false, 0, 0, []⟩ ⟨none, 0, 0⟩ W
 have HR := lh hr
 have HR0 := lh hr
 have HW := lh hw
 clear hw hr
 have CS : Hid (∀ (W : World) (k : Nat) (b : Ax) (S N T : Sl), QS a.ov k b → RdA W W.heap.size b S N T → Calls Tryz.prog 22 #[axV b S N T, inV (quietI a.ov x) ⟨none, 0, 0⟩] W (GotS (pushed b) [] S N T ⟨none, 0, 0⟩ W)) := lh fun W k b S N T hb h => by
  have h2 := step_any b hb.good (quietI a.ov x) (quietI_wide (by rw [← hb.ov]; exact hb.good.wide.ov) x) (L := ⟨none, 0, 0⟩) h (Rd.none_ _ _ _ _) (Nat.le_refl _) (by decide)
  have hs := quiet_step hb.good.right hb.st hb.v (hb.quiet (i := quietI a.ov x) rfl rfl rfl rfl rfl)
  rw [hs.1, hs.2] at h2
  exact h2
 by_cases hs : shortP a N.n T.n S.n 0 = true
 ·rw [hs] at HS
  obtain ⟨s1, s2, s3, _⟩ := of_decide_eq_true hs
  have S1 := lh s1
  have S2 := lh s2
  have S3 := lh s3
  clear hs s1 s2 s3
  by_cases hR : RightA a
  ·have RB := lh (rightB_yes hR)
   by_cases h1 : a.st = 1
   ·have n0 : N.n = 0 := by rw [← HR.out.N.1, (hR.none (.inr (.inl h1))).1]; rfl
    by_cases hv : a.v = 0
    ·have Q0 := lh (QS.first ⟨hR, HW.out.keep⟩ h1 hv)
     have HN := lh n0
     clear n0
     have H1 := lh h1
     have HV := lh hv
     clear h1 hv hR
     go_enter Tryz.func8, Tryz.ntmps8
     go_upto_region 3 with (go_at_call 9; ((with_reducible refine (HK.out _).mono ?_); rintro e v1 ⟨rfl, hb⟩; obtain ⟨x1, hbb, hz⟩ := k.boxes1 hb; have X : Hid (k.Box v1 w.heap.size 0 (axC a S N T)) := lh x1; have HB := lh hbb; have HR := lh (HR.out.past hbb); clear x1 hb hbb))
     go_upto_region 5 with (first | ((with_reducible refine m_ax_load X.out 3 ?_ ?_ ?_ ?_); rfl; rfl; rfl; (try simp only [Act.put])) | (go_at_call 15; ((with_reducible refine (HS.out _).mono ?_); rintro e v2 ⟨rfl, hb⟩; have X := lh (X.out.below hb hz); have hz := Nat.lt_of_lt_of_le hz hb.size; have HB := lh (HB.out.trans (hb.mono HB.out.size)); have HR := lh (HR.out.past hb); clear hb)) | (go_at_call 14; ((with_reducible refine (right_any a HW.out HR.out (Nat.le_refl _)).mono ?_); rintro e v3 ⟨rfl, hb⟩; rw [RB.out]; have X := lh (X.out.below hb hz); have hz := Nat.lt_of_lt_of_le hz hb.size; have HB := lh (HB.out.trans (hb.mono HB.out.size)); have HR := lh (HR.out.past hb); have ⟨c0, _⟩ := k.cell_of X.out (i := 0) rfl; have ⟨c11, _⟩ := k.cell_of X.out (i := 11) rfl; have ⟨c14, _⟩ := k.cell_of X.out (i := 14) rfl; have ⟨c21, _⟩ := k.cell_of X.out (i := 21) rfl; rw [H1.out] at c0; rw [HV.out] at c11; rw [HN.out] at c14; clear hb)))
     have HO := lh (HR0.out.off (Nat.le_refl _))
     clear HR0 c0 c11 c14 H1 HV HN RB
     go_upto_region 6 with ((with_reducible refine m_in_new (w := v3) (quietI a.ov x) ⟨none, 0, 0⟩ 7 47 ?_ ?_ ?_ ?_ ?_ ?_); rfl; rfl; rfl; rfl; rfl; intro v4 x1 hb2 hz2; have XI := lh x1; have X := lh (X.out.below hb2 hz); have hzv := hz; have HR := lh (HR.out.past hb2); have HB := lh (HB.out.trans (hb2.mono HB.out.size)); clear x1 hb2)
     clear c21
     obtain ⟨gi, hgi⟩ : ∃ g, v3.heap.size = g := ⟨_, rfl⟩
     rw [hgi] at hzv hz2 XI ⊢
     go_wp2
     go_loopw [8] (fun i wr => ∃ (j : Nat) (b : Ax) (S N T : Sl), j ≤ 16 ∧ i = .int .i64 j ∧ QS a.ov j b ∧ k.Box wr w.heap.size 0 (axC b S N T) ∧ k.Box wr gi 0 (inL (quietI a.ov x) ⟨none, 0, 0⟩) ∧ RdA wr wr.heap.size b S N T ∧ OffA w.heap.size S N T ∧ Below w.heap.size w wr ∧ gi < wr.heap.size) (fun i _ => 16 - (intOf i).toNat)
     case atStart => exact ⟨0, a, S, N, T, by omega, rfl, Q0.out, X.out, XI.out, HR.out, HO.out, HB.out, hz2⟩
     case round =>
      clear X XI HR HO HB hz2 hz hgi
      obtain ⟨j, b, S1, N1, T1, hj, rfl, hq, hx, hi, hr, ho, hb, hz2⟩ := hrel
      have Q := lh hq
      have X := lh hx
      have XI := lh hi
      have HR := lh hr
      have HR0 := lh hr
      have HO := lh ho
      have HB := lh hb
      clear hq hx hi hr ho hb
      by_cases hlt : j < 16
      ·have hj1 : (j : Int) < 16 := by omega
       go_wp2_with (first | ((with_reducible refine m_ax_load X.out 3 ?_ ?_ ?_ ?_); rfl; rfl; rfl; (try simp only [Act.put])) | ((with_reducible refine m_in_load XI.out 7 ?_ ?_ ?_ ?_); rfl; rfl; rfl; (try simp only [Act.put])) | (go_at_call 22; ((with_reducible refine (CS.out _ j b S1 N1 T1 Q.out HR.out).mono ?_); rintro e w5 ⟨S2, N2, T2, L2, rfl, hr, hl, hb, ho⟩; have hzw : w.heap.size < wr.heap.size := Nat.lt_trans hzv hz2; have HO := lh (ho w.heap.size hzw HO.out (fun h => absurd h (Nat.lt_irrefl _))).1; have X := lh (X.out.below hb hzw); have XI := lh (XI.out.below hb hz2); have hz3 := Nat.lt_of_lt_of_le hz2 hb.size; have HR := lh hr; have HB := lh (HB.out.trans (hb.mono HB.out.size)); clear hr hl hb ho)) | ((with_reducible refine m_ax_old X.out (pushed b) S2 N2 T2 3 56 ?_ ?_ ?_ ?_ ?_ ?_); rfl; rfl; rfl; rfl; rfl; intro w6 hw2 x1 hb2 ha2 hs2; have HR := lh (show RdA w6 w6.heap.size (pushed b) S2 N2 T2 by rw [hs2, ← hw2]; exact HR.out.aside HO.out _); have XI := lh (ha2 _ _ (Nat.ne_of_lt hzv) XI.out); have HB := lh (HB.out.trans hb2); rw [← hs2] at hz3; clear hw2; have X := lh x1; clear x1 hb2 ha2 hs2))
       go_roundw
       case rel => exact ⟨j + 1, pushed b, S2, N2, T2, by omega, by go_num, Q.out.next, X.out, XI.out, HR.out, HO.out, HB.out, hz3⟩
       case measure => simp [intOf]; omega
      ·have hjl : j = 16 := by omega
       have hj1 : ¬ (j : Int) < 16 := by omega
       have Q := lh (show QS a.ov 16 b from hjl ▸ Q.out)
       clear hlt hj hjl
       have P := lh Q.out.rest
       clear Q0
       have HG := lh (fun (W : World) (h : RdA W W.heap.size b S1 N1 T1) => CS.out W 16 b S1 N1 T1 Q.out h)
       rw [P.out] at HG
       clear CS P Q
       obtain ⟨m, hm⟩ : ∃ m : Int, q.tmod 100 = m := ⟨_, rfl⟩
       have hm0 : 0 ≤ m := by rw [← hm]; exact Int.tmod_nonneg _ hq0
       have hm1 : m < 100 := by rw [← hm]; exact Int.tmod_lt_of_pos _ (by decide)
       obtain ⟨n, rfl⟩ : ∃ n : Nat, m = n := ⟨m.toNat, by omega⟩
       go_wp2
       go_loopw [9] (fun i wr => ∃ (j : Nat), j ≤ n ∧ i = .int .i64 j ∧ k.Box wr w.heap.size 0 (axC b S1 N1 T1) ∧ k.Box wr gi 0 (inL (quietI a.ov x) ⟨none, 0, 0⟩) ∧ RdA wr wr.heap.size b S1 N1 T1 ∧ Below w.heap.size w wr ∧ gi < wr.heap.size) (fun i _ => n - (intOf i).toNat)
       case atStart => exact ⟨0, by omega, rfl, X.out, XI.out, HR.out, HB.out, hz2⟩
       case round =>
        clear X XI HR HO HB hz2
        obtain ⟨j, hj, rfl, hx, hi, hr, hb, hz2⟩ := hrel
        have X := lh hx
        have XI := lh hi
        have HR := lh hr
        have HB := lh hb
        clear hx hi hr hb
        by_cases hlt : j < n
        ·have hj1 : (j : Int) < (n : Int) := by omega
         go_wp2_with (first | ((with_reducible refine m_ax_load X.out 3 ?_ ?_ ?_ ?_); rfl; rfl; rfl; (try simp only [Act.put])) | ((with_reducible refine m_ax_load XN.out 10 ?_ ?_ ?_ ?_); rfl; rfl; rfl; (try simp only [Act.put])) | ((with_reducible refine m_in_load XI.out 7 ?_ ?_ ?_ ?_); rfl; rfl; rfl; (try simp only [Act.put])) | (go_at_call 22; ((with_reducible refine (HG.out _ HR.out).mono ?_); rintro e w5 ⟨S2, N2, T2, ⟨A2, n2, k2⟩, rfl, hr, hl, hb, ho⟩; have hzw : w.heap.size < wr.heap.size := Nat.lt_trans hzv hz2; obtain rfl : n2 = 0 := hl.1.symm; have X := lh (X.out.below hb hzw); have XI := lh (XI.out.below hb hz2); have hz3 := Nat.lt_of_lt_of_le hz2 hb.size; have HN := lh hr; have HR := lh (HR.out.past hb); have HB := lh (HB.out.trans (hb.mono HB.out.size)); have hzw := Nat.lt_of_lt_of_le hzw hb.size; clear hr hl hb ho)) | ((with_reducible refine m_ax_new (w := w5) b S2 N2 T2 10 69 ?_ ?_ ?_ ?_ ?_ ?_); rfl; rfl; rfl; rfl; rfl; intro w6 x1 hb2 hz2; have XN := lh x1; have X := lh (X.out.below hb2 hzw); have XI := lh (XI.out.below hb2 hz3); have HN := lh (HN.out.past hb2); have HR := lh (HR.out.past hb2); have hz3 := Nat.lt_of_lt_of_le hz3 hb2.size; have HB := lh (HB.out.trans (hb2.mono HB.out.size)); have hzw := Nat.lt_of_lt_of_le hzw hb2.size; clear x1 hb2) | (go_at_call 13; ((with_reducible refine (refsame_any b _ HN.out HR.out (Nat.le_refl _)).mono ?_); rintro e w8 ⟨rfl, hb⟩; have X := lh (X.out.below hb hzw); have XI := lh (XI.out.below hb hz3); have hz3 := Nat.lt_of_lt_of_le hz3 hb.size; have HR := lh (HR.out.past hb); have HB := lh (HB.out.trans (hb.mono HB.out.size)); clear hb)))
         go_roundw
         case rel => exact ⟨j + 1, by omega, by go_num, X.out, XI.out, HR.out, HB.out, hz3⟩
         case measure => simp [intOf]; omega
        ·have hj1 : ¬ (j : Int) < (n : Int) := by omega
         go_wp2
         go_ret
         exact ⟨rfl, HB.out⟩
    ·have hvb : (a.v != 0) = true := bne_iff_ne.2 hv
     have H1 := lh h1
     have HN := lh n0
     clear h1 n0 hR hv
     go_enter Tryz.func8, Tryz.ntmps8
     go_upto_region 3 with (go_at_call 9; ((with_reducible refine (HK.out _).mono ?_); rintro e v1 ⟨rfl, hb⟩; obtain ⟨x1, hbb, hz⟩ := k.boxes1 hb; have X : Hid (k.Box v1 w.heap.size 0 (axC a S N T)) := lh x1; have HB := lh hbb; have HR := lh (HR.out.past hbb); clear x1 hb hbb))
     go_wp2_with (first | ((with_reducible refine m_ax_load X.out 3 ?_ ?_ ?_ ?_); rfl; rfl; rfl; (try simp only [Act.put])) | (go_at_call 15; ((with_reducible refine (HS.out _).mono ?_); rintro e v2 ⟨rfl, hb⟩; have X := lh (X.out.below hb hz); have hz := Nat.lt_of_lt_of_le hz hb.size; have HB := lh (HB.out.trans (hb.mono HB.out.size)); have HR := lh (HR.out.past hb); clear hb)) | (go_at_call 14; ((with_reducible refine (right_any a HW.out HR.out (Nat.le_refl _)).mono ?_); rintro e v3 ⟨rfl, hb⟩; rw [RB.out]; have X := lh (X.out.below hb hz); have hz := Nat.lt_of_lt_of_le hz hb.size; have HB := lh (HB.out.trans (hb.mono HB.out.size)); have HR := lh (HR.out.past hb); have ⟨c0, _⟩ := k.cell_of X.out (i := 0) rfl; have ⟨c11, _⟩ := k.cell_of X.out (i := 11) rfl; have ⟨c14, _⟩ := k.cell_of X.out (i := 14) rfl; rw [H1.out] at c0; rw [HN.out] at c14; clear hb)))
     go_ret
     exact ⟨rfl, HB.out⟩
   ·have h1b : (a.st != 1) = true := bne_iff_ne.2 h1
    clear h1 hR
    go_enter Tryz.func8, Tryz.ntmps8
    go_upto_region 3 with (go_at_call 9; ((with_reducible refine (HK.out _).mono ?_); rintro e v1 ⟨rfl, hb⟩; obtain ⟨x1, hbb, hz⟩ := k.boxes1 hb; have X : Hid (k.Box v1 w.heap.size 0 (axC a S N T)) := lh x1; have HB := lh hbb; have HR := lh (HR.out.past hbb); clear x1 hb hbb))
    go_wp2_with (first | ((with_reducible refine m_ax_load X.out 3 ?_ ?_ ?_ ?_); rfl; rfl; rfl; (try simp only [Act.put])) | (go_at_call 15; ((with_reducible refine (HS.out _).mono ?_); rintro e v2 ⟨rfl, hb⟩; have X := lh (X.out.below hb hz); have hz := Nat.lt_of_lt_of_le hz hb.size; have HB := lh (HB.out.trans (hb.mono HB.out.size)); have HR := lh (HR.out.past hb); clear hb)) | (go_at_call 14; ((with_reducible refine (right_any a HW.out HR.out (Nat.le_refl _)).mono ?_); rintro e v3 ⟨rfl, hb⟩; rw [RB.out]; have X := lh (X.out.below hb hz); have hz := Nat.lt_of_lt_of_le hz hb.size; have HB := lh (HB.out.trans (hb.mono HB.out.size)); have HR := lh (HR.out.past hb); have ⟨c0, _⟩ := k.cell_of X.out (i := 0) rfl; clear hb)))
    go_ret
    exact ⟨rfl, HB.out⟩
  ·have RB := lh (rightB_no hR)
   clear hR
   go_enter Tryz.func8, Tryz.ntmps8
   go_upto_region 3 with (go_at_call 9; ((with_reducible refine (HK.out _).mono ?_); rintro e v1 ⟨rfl, hb⟩; obtain ⟨x1, hbb, hz⟩ := k.boxes1 hb; have X : Hid (k.Box v1 w.heap.size 0 (axC a S N T)) := lh x1; have HB := lh hbb; have HR := lh (HR.out.past hbb); clear x1 hb hbb))
   go_wp2_with (first | ((with_reducible refine m_ax_load X.out 3 ?_ ?_ ?_ ?_); rfl; rfl; rfl; (try simp only [Act.put])) | (go_at_call 15; ((with_reducible refine (HS.out _).mono ?_); rintro e v2 ⟨rfl, hb⟩; have X := lh (X.out.below hb hz); have hz := Nat.lt_of_lt_of_le hz hb.size; have HB := lh (HB.out.trans (hb.mono HB.out.size)); have HR := lh (HR.out.past hb); clear hb)) | (go_at_call 14; ((with_reducible refine (right_any a HW.out HR.out (Nat.le_refl _)).mono ?_); rintro e v3 ⟨rfl, hb⟩; rw [RB.out]; have X := lh (X.out.below hb hz); have hz := Nat.lt_of_lt_of_le hz hb.size; have HB := lh (HB.out.trans (hb.mono HB.out.size)); have HR := lh (HR.out.past hb); skip; clear hb)))
   go_ret
   exact ⟨rfl, HB.out⟩
 ·rw [Bool.not_eq_true] at hs
  rw [hs] at HS
  clear hs
  go_enter Tryz.func8, Tryz.ntmps8
  go_upto_region 3 with (go_at_call 9; ((with_reducible refine (HK.out _).mono ?_); rintro e v1 ⟨rfl, hb⟩; obtain ⟨x1, hbb, hz⟩ := k.boxes1 hb; have X : Hid (k.Box v1 w.heap.size 0 (axC a S N T)) := lh x1; have HB := lh hbb; have HR := lh (HR.out.past hbb); clear x1 hb hbb))
  go_wp2_with (first | ((with_reducible refine m_ax_load X.out 3 ?_ ?_ ?_ ?_); rfl; rfl; rfl; (try simp only [Act.put])) | (go_at_call 15; ((with_reducible refine (HS.out _).mono ?_); rintro e v2 ⟨rfl, hb⟩; have X := lh (X.out.below hb hz); have hz := Nat.lt_of_lt_of_le hz hb.size; have HB := lh (HB.out.trans (hb.mono HB.out.size)); have HR := lh (HR.out.past hb); clear hb)))
  go_ret
  exact ⟨rfl, HB.out⟩
theorem walk (x0 x1 x2 x3 x4 x5 x6 x7 x8 x9 x10 x11 : Int) (x12a : Option Addr) (x12l x12c : Nat) (x12z : List Int) (x13 : Int) (x14a : Option Addr) (x14l x14c : Nat) (x15a : Option Addr) (x15l x15c : Nat) (x16 : Bool) (x17 x18 x19 : Int) (x20 : Bool) (x21 x22 x23 x24 : Int) (x25 : Bool) (q : Int) (x : Bool) (w : World)
  (u0 : (Lit.int .i64 x0).wf = true) (u1 : (Lit.int .i64 x1).wf = true) (u2 : (Lit.int .i64 x2).wf = true) (u3 : (Lit.int .i64 x3).wf = true) (u4 : (Lit.int .i64 x4).wf = true) (u5 : (Lit.int .i64 x5).wf = true) (u6 : (Lit.int .i64 x6).wf = true) (u7 : (Lit.int .i64 x7).wf = true) (u8 : (Lit.int .i64 x8).wf = true) (u9 : (Lit.int .i64 x9).wf = true) (u10 : (Lit.int .i64 x10).wf = true) (u11 : (Lit.int .i64 x11).wf = true)
  (u12 : IsRow .i64 w x12a x12l x12c x12z) (u13 : (Lit.int .i64 x13).wf = true) (u14 : IsRecs w 7 x14a x14l x14c) (u15 : IsRecs w 7 x15a x15l x15c) (u17 : (Lit.int .i64 x17).wf = true) (u18 : (Lit.int .i64 x18).wf = true) (u19 : (Lit.int .i64 x19).wf = true) (u21 : (Lit.int .i64 x21).wf = true) (u22 : (Lit.int .i64 x22).wf = true) (u23 : (Lit.int .i64 x23).wf = true) (u24 : (Lit.int .i64 x24).wf = true) (hq : (Lit.int .u8 q).wf = true) :
  Calls Tryz.prog 8 #[.agg #[.int .i64 x0, .int .i64 x1, .int .i64 x2, .int .i64 x3, .int .i64 x4, .int .i64 x5, .int .i64 x6, .int .i64 x7, .int .i64 x8, .int .i64 x9, .int .i64 x10, .int .i64 x11, .slice x12a x12l x12c, .int .i64 x13, .slice x14a x14l x14c, .slice x15a x15l x15c, .bool x16, .int .i64 x17, .int .i64 x18, .int .i64 x19, .bool x20, .int .i64 x21, .int .i64 x22, .int .i64 x23, .int .i64 x24, .bool x25], .int .u8 q, .bool x] w fun e w' => e = .returned (.bool true) ∧ Below w.heap.size w w' := by
 obtain ⟨a, S, N, T, e, hr, hw⟩ := par_axis x0 x1 x2 x3 x4 x5 x6 x7 x8 x9 x10 x11 x12a x12l x12c x12z x13 x14a x14l x14c x15a x15l x15c x16 x17 x18 x19 x20 x21 x22 x23 x24 x25 w u0 u1 u2 u3 u4 u5 u6 u7 u8 u9 u10 u11 u12 u13 u14 u15 u17 u18 u19 u21 u22 u23 u24
 rw [e]
 obtain ⟨h0, h1⟩ := wf8 hq
 exact walk_in a S N T q x w hr hw h0 h1
end Go.Proofs.YtijlccblabadaaaGreat.axisQuiet
