/- The walk of the law AxisLands: any axis, any move: it returns true, and what was in memory is as it was. -/
import Derived.Test.YtijlccblabadaaaGreatV15
import Derived.Test.YtijlccblabadaaaGreatU13
import Derived.Test.YtijlccblabadaaaGreatU12
import Derived.Test.YtijlccblabadaaaGreatU15
import Derived.Test.YtijlccblabadaaaGreatX01
namespace Go.Proofs.YtijlccblabadaaaGreat.axisLands
set_option maxRecDepth 100000
open Go.ChangeShapes Go.WideShapes Go.ChangeAt Go.RowKit Go.Proofs.YtijlccblabadaaaGreat.k Go.Proofs.YtijlccblabadaaaGreat.rr Go.Proofs.YtijlccblabadaaaGreat.ax Go.Proofs.YtijlccblabadaaaGreat
open Go.Proofs.YtijlccblabadaaaGreat.ln (C RdC RdI)
set_option linter.unusedVariables false
theorem wf16 {a : Int} (h : (Lit.int .i16 a).wf = true) : -32768 ≤ a ∧ a ≤ 32767 := by
 simp only [Lit.wf, IntKind.min, IntKind.max, IntKind.signed, IntKind.bits, Bool.and_eq_true, decide_eq_true_eq, if_true] at h
 omega
set_option maxRecDepth 100000 in
set_option maxHeartbeats 4000000 in
theorem walk_in (a : Ax) (S N T : Sl) (id x v : Int) (w : World) (hr : RdA w w.heap.size a S N T) (hw : WideA a) (h1 : InR id) (hx0 : -32768 ≤ x) (hx1 : x ≤ 32767) (h3 : InR v) :
  Calls Tryz.prog 7 #[axV a S N T, .int .i64 id, .int .i16 x, .int .i64 v] w fun e w' => e = .returned (.bool true) ∧ Below w.heap.size w w' := by
 have HK := lh fun W => awake_any W
 have HR := lh hr
 have HR0 := lh hr
 have HW := lh hw
 have HI1 := lh h1
 have HI3 := lh h3
 have HS := lh fun (W : World) => refshort_any a S N T ⟨false, false, 0, 0, false, false, false, false, false, 0, 0, []⟩ ⟨none, 0, 0⟩ W
 clear hr hw h1 h3
 by_cases hs : shortP a N.n T.n S.n 0 = true
 ·rw [hs] at HS
  clear hs
  by_cases hR : RightA a
  ·have RB := lh (rightB_yes hR)
   by_cases h1 : a.st = 1
   ·have n0 : N.n = 0 := by rw [← HR.out.N.1, (hR.none (.inr (.inl h1))).1]; rfl
    have H1 := lh h1
    have HN := lh n0
    have G := lh (GoodA.mk hR HW.out.keep)
    clear h1 n0 hR
    by_cases hv : a.v = 0
    ·have HV := lh hv
     clear hv
     by_cases hx2 : 1000 < x
     ·have hx3 : decide (1000 < x) = true := decide_eq_true hx2
      go_enter Tryz.func7, Tryz.ntmps7
      go_wp2_with (first | (go_at_call 9; ((with_reducible refine (HK.out _).mono ?_); rintro e v1 ⟨rfl, hb⟩; obtain ⟨x1, hbb, hz⟩ := k.boxes1 hb; have X : Hid (k.Box v1 w.heap.size 0 (axC a S N T)) := lh x1; have HB := lh hbb; have HR := lh (HR.out.past hbb); clear x1 hb hbb)) | ((with_reducible refine m_ax_load X.out 4 ?_ ?_ ?_ ?_); rfl; rfl; rfl; (try simp only [Act.put])) | (go_at_call 15; ((with_reducible refine (HS.out _).mono ?_); rintro e v2 ⟨rfl, hb⟩; have X := lh (X.out.below hb hz); have hz := Nat.lt_of_lt_of_le hz hb.size; have HB := lh (HB.out.trans (hb.mono HB.out.size)); have HR := lh (HR.out.past hb); clear hb)) | (go_at_call 14; ((with_reducible refine (right_any a HW.out HR.out (Nat.le_refl _)).mono ?_); rintro e v3 ⟨rfl, hb⟩; rw [RB.out]; have X := lh (X.out.below hb hz); have hz := Nat.lt_of_lt_of_le hz hb.size; have HB := lh (HB.out.trans (hb.mono HB.out.size)); have HR := lh (HR.out.past hb); have ⟨c0, _⟩ := k.cell_of X.out (i := 0) rfl; have ⟨c11, _⟩ := k.cell_of X.out (i := 11) rfl; have ⟨c14, _⟩ := k.cell_of X.out (i := 14) rfl; rw [H1.out] at c0; rw [HV.out] at c11; rw [HN.out] at c14; clear hb)))
      go_ret
      exact ⟨rfl, HB.out⟩
     ·have hx3 : decide (1000 < x) = false := decide_eq_false hx2
      by_cases hx4 : x < -1000
      ·have hx5 : decide (x < -1000) = true := decide_eq_true hx4
       go_enter Tryz.func7, Tryz.ntmps7
       go_wp2_with (first | (go_at_call 9; ((with_reducible refine (HK.out _).mono ?_); rintro e v1 ⟨rfl, hb⟩; obtain ⟨x1, hbb, hz⟩ := k.boxes1 hb; have X : Hid (k.Box v1 w.heap.size 0 (axC a S N T)) := lh x1; have HB := lh hbb; have HR := lh (HR.out.past hbb); clear x1 hb hbb)) | ((with_reducible refine m_ax_load X.out 4 ?_ ?_ ?_ ?_); rfl; rfl; rfl; (try simp only [Act.put])) | (go_at_call 15; ((with_reducible refine (HS.out _).mono ?_); rintro e v2 ⟨rfl, hb⟩; have X := lh (X.out.below hb hz); have hz := Nat.lt_of_lt_of_le hz hb.size; have HB := lh (HB.out.trans (hb.mono HB.out.size)); have HR := lh (HR.out.past hb); clear hb)) | (go_at_call 14; ((with_reducible refine (right_any a HW.out HR.out (Nat.le_refl _)).mono ?_); rintro e v3 ⟨rfl, hb⟩; rw [RB.out]; have X := lh (X.out.below hb hz); have hz := Nat.lt_of_lt_of_le hz hb.size; have HB := lh (HB.out.trans (hb.mono HB.out.size)); have HR := lh (HR.out.past hb); have ⟨c0, _⟩ := k.cell_of X.out (i := 0) rfl; have ⟨c11, _⟩ := k.cell_of X.out (i := 11) rfl; have ⟨c14, _⟩ := k.cell_of X.out (i := 14) rfl; rw [H1.out] at c0; rw [HV.out] at c11; rw [HN.out] at c14; clear hb)))
       go_ret
       exact ⟨rfl, HB.out⟩
      ·have hx5 : decide (x < -1000) = false := decide_eq_false hx4
       have HX : Hid (-1000 ≤ x ∧ x ≤ 1000) := lh (by omega)
       have pin := place_in G.out.right
       have ex : IntKind.i64.wrap x = x := IntWalk.i64_in _ (by omega)
       have et : IntKind.i64.wrap (a.p + x) = a.p + x := IntWalk.i64_in _ (by omega)
       clear pin
       have HF := lh (lst_first G.out H1.out HV.out (x := x) HI1.out HI3.out HX.out)
       obtain ⟨n0, hn0⟩ : ∃ n, stepA a (firI id x v) = n := ⟨_, rfl⟩
       obtain ⟨R0, hR0⟩ : ∃ R, stepR a (firI id x v) = R := ⟨_, rfl⟩
       rw [hn0, hR0] at HF
       have CS0 : Hid (∀ (W : World) (A : Option Addr) (n c : Nat), RdA W W.heap.size a S N T → RdC W W.heap.size A n c [relC id x v] → Calls Tryz.prog 22 #[axV a S N T, inV (firI id x v) ⟨A, n, c⟩] W (GotS n0 R0 S N T ⟨A, n, c⟩ W)) := lh fun W A n c h hL => by
        have h2 := step_any a G.out (firI id x v) (firI_wide HI1.out ⟨by omega, by omega⟩ HI3.out) (L := ⟨A, n, c⟩) h hL (Nat.le_refl _) (by show n ≤ 20; rw [← hL.1]; show 1 ≤ 20; decide)
        rw [hn0, hR0] at h2
        exact h2
       clear hn0 hR0
       have HO0 := lh fun g (hg : w.heap.size ≤ g) => HR0.out.off hg
       go_enter Tryz.func7, Tryz.ntmps7
       go_upto_region 5 with (first | (go_at_call 9; ((with_reducible refine (HK.out _).mono ?_); rintro e v1 ⟨rfl, hb⟩; obtain ⟨x1, hbb, hz⟩ := k.boxes1 hb; have X : Hid (k.Box v1 w.heap.size 0 (axC a S N T)) := lh x1; have HB := lh hbb; have HR := lh (HR.out.past hbb); clear x1 hb hbb)) | ((with_reducible refine m_ax_load X.out 4 ?_ ?_ ?_ ?_); rfl; rfl; rfl; (try simp only [Act.put])) | (go_at_call 15; ((with_reducible refine (HS.out _).mono ?_); rintro e v2 ⟨rfl, hb⟩; have X := lh (X.out.below hb hz); have hz := Nat.lt_of_lt_of_le hz hb.size; have HB := lh (HB.out.trans (hb.mono HB.out.size)); have HR := lh (HR.out.past hb); clear hb)) | (go_at_call 14; ((with_reducible refine (right_any a HW.out HR.out (Nat.le_refl _)).mono ?_); rintro e v3 ⟨rfl, hb⟩; rw [RB.out]; have X := lh (X.out.below hb hz); have hz := Nat.lt_of_lt_of_le hz hb.size; have HB := lh (HB.out.trans (hb.mono HB.out.size)); have HR := lh (HR.out.past hb); have ⟨c0, _⟩ := k.cell_of X.out (i := 0) rfl; have ⟨c11, _⟩ := k.cell_of X.out (i := 11) rfl; have ⟨c14, _⟩ := k.cell_of X.out (i := 14) rfl; rw [H1.out] at c0; rw [HV.out] at c11; rw [HN.out] at c14; clear hb)))
       clear c0 c11 c14 hx3 hx5
       go_upto_region 6 with ((with_reducible refine m_in_new (w := v3) goI ⟨none, 0, 0⟩ 9 54 ?_ ?_ ?_ ?_ ?_ ?_); rfl; rfl; rfl; rfl; rfl; intro w4 x1 hb2 hz2; have XI := lh x1; have X := lh (X.out.below hb2 hz); have hz := Nat.lt_of_lt_of_le hz hb2.size; have HB := lh (HB.out.trans (hb2.mono HB.out.size)); have HR := lh (HR.out.past hb2); have hzi := hz2; clear x1 hb2)
       go_upto_region 7 with (first | ((with_reducible refine m_in_load XI.out 9 ?_ ?_ ?_ ?_); rfl; rfl; rfl; (try simp only [Act.put])) | ((with_reducible refine m_in_new (w := w4) goI ⟨none, 0, 0⟩ 10 55 ?_ ?_ ?_ ?_ ?_ ?_); rfl; rfl; rfl; rfl; rfl; intro w5 x1 hb2 hz2; have XF := lh x1; have X := lh (X.out.below hb2 hz); have hz := Nat.lt_of_lt_of_le hz hb2.size; have HB := lh (HB.out.trans (hb2.mono HB.out.size)); have HR := lh (HR.out.past hb2); have XI := lh (XI.out.below hb2 hzi); have hzf := hz2; have hgf : v3.heap.size < w4.heap.size := hzi; clear x1 hb2))
       have ⟨f11, ff11⟩ := k.cell_of XF.out (i := 11) rfl
       go_upto_region 8 with fail
       have hwl : w.heap.size < w4.heap.size := by omega
       have xf : k.Box (w5.setCell ⟨w4.heap.size, 11, none⟩ (.slice (some ⟨w5.heap.size, 0, none⟩) 1 1)) w4.heap.size 0 (inL (firI id x v) ⟨some ⟨w5.heap.size, 0, none⟩, 1, 1⟩) := XF.out.put 11 (by simp) (.slice (some ⟨w5.heap.size, 0, none⟩) 1 1)
       have xa := k.Box_aside (i := 11) (show w4.heap.size ≠ w.heap.size by omega) (.slice (some ⟨w5.heap.size, 0, none⟩) 1 1) X.out
       have xi := k.Box_aside (i := 11) (show w4.heap.size ≠ v3.heap.size by omega) (.slice (some ⟨w5.heap.size, 0, none⟩) 1 1) XI.out
       have xr := HR.out.cell (HO0.out w4.heap.size (Nat.le_of_lt hwl)) 11 (.slice (some ⟨w5.heap.size, 0, none⟩) 1 1)
       have xb : Below w.heap.size w (w5.setCell ⟨w4.heap.size, 11, none⟩ (.slice (some ⟨w5.heap.size, 0, none⟩) 1 1)) := HB.out.setCell (Nat.le_of_lt hwl) _
       have es : (w5.setCell ⟨w4.heap.size, 11, none⟩ (.slice (some ⟨w5.heap.size, 0, none⟩) 1 1)).heap.size = w5.heap.size := by simp
       generalize (w5.setCell ⟨w4.heap.size, 11, none⟩ (.slice (some ⟨w5.heap.size, 0, none⟩) 1 1)) = ws at xf xa xi xr xb es ⊢
       obtain ⟨_, ba, zh⟩ := k.boxes1 (w := ws) (c1 := #[.int .i64 id, .int .i64 2, .int .i64 x, .int .i64 v, .int .i64 0, .int .i64 0, .int .i64 0]) (t1 := 62) (Below.refl _ _)
       have row := one_row (enc := Go.Proofs.YtijlccblabadaaaGreat.ln.cC) (z := 7) ws 62 (relC id x v) #[.int .i64 id, .int .i64 2, .int .i64 x, .int .i64 v, .int .i64 0, .int .i64 0, .int .i64 0] rfl
       rw [es] at row ba zh
       skip
       generalize ws.alloc (.cells #[.int .i64 id, .int .i64 2, .int .i64 x, .int .i64 v, .int .i64 0, .int .i64 0, .int .i64 0] 62) = w7 at ba row zh ⊢
       have XF := lh (xf.below ba (by omega))
       have X := lh (xa.below ba (by omega))
       have XI := lh (xi.below ba (by omega))
       have XF := lh (xf.below ba (by omega))
       have X := lh (xa.below ba (by omega))
       have XI := lh (xi.below ba (by omega))
       have HR := lh ((xr.below ba).more (Nat.le_of_lt zh))
       have HC := lh (row.more (show w5.heap.size + 1 ≤ w7.heap.size by omega))
       have HB := lh (xb.trans (ba.mono (by omega)))
       have hz : w.heap.size < w7.heap.size := by omega
       have hzi : v3.heap.size < w7.heap.size := by omega
       clear xf xa xi xr xb es ba row f11 ff11
       have ⟨c10, _⟩ := k.cell_of X.out (i := 10) rfl
       go_upto_region 10 with (first | ((with_reducible refine m_ax_load X.out 4 ?_ ?_ ?_ ?_); rfl; rfl; rfl; (try simp only [Act.put])) | ((with_reducible refine m_in_load XF.out 10 ?_ ?_ ?_ ?_); rfl; rfl; rfl; (try simp only [Act.put])) | (go_at_call 22; ((with_reducible refine (CS0.out _ _ _ _ HR.out HC.out).mono ?_); rintro e v8 ⟨S2, N2, T2, ⟨A2, n2, k2⟩, rfl, hr, hl, hb, ho⟩; clear c10; have X := lh (X.out.below hb hz); have XI := lh (XI.out.below hb hzi); have hz := Nat.lt_of_lt_of_le hz hb.size; have hzi := Nat.lt_of_lt_of_le hzi hb.size; have HB := lh (HB.out.trans (hb.mono HB.out.size)); have HRN := lh hr; have HLN := lh hl; clear hr hl hb ho HR HC)) | ((with_reducible refine m_ax_new (w := v8) n0 S2 N2 T2 12 73 ?_ ?_ ?_ ?_ ?_ ?_); rfl; rfl; rfl; rfl; rfl; intro w9 x1 hb2 hz2; have XN := lh x1; have HON := lh (HRN.out.off (Nat.le_refl _)); have HOL : Hid (Off v8.heap.size ⟨A2, n2, k2⟩) := lh (off_of (s := ⟨A2, n2, k2⟩) HLN.out (Nat.le_refl _)); have X := lh (X.out.below hb2 hz); have XI := lh (XI.out.below hb2 hzi); have HRN := lh (HRN.out.past hb2); have HLN := lh ((HLN.out.below hb2).more hb2.size); have HB := lh (HB.out.trans (hb2.mono HB.out.size)); have hgn := Nat.ne_of_lt hz; have hgi := Nat.ne_of_lt hzi; clear x1 hb2))
       obtain ⟨gN, hgN⟩ : ∃ g, v8.heap.size = g := ⟨_, rfl⟩
       rw [hgN] at hz2 hgn hgi XN HON HOL hz hzi ⊢
       obtain ⟨gI, hgI⟩ : ∃ g, v3.heap.size = g := ⟨_, rfl⟩
       rw [hgI] at hgi XI hzi ⊢
       clear CS0 XF HK RB HS
       have hlen := HLN.out.len_le
       rcases HF.out with ⟨⟨R1, hR1⟩, hor⟩ | ⟨⟨R1, hR1⟩, hlst⟩
       ·skip
        obtain ⟨bR, oR, r, rfl, hbR, hrx, hrg⟩ := HLN.out.at (i := 0) (by rw [← HLN.out.1, hR1]; exact Nat.succ_pos _)
        have hn2 : (0 : Int) < (n2 : Int) := by rw [← HLN.out.1, hR1]; simp
        rw [hR1] at hrx
        obtain rfl : (id, (5 : Int)) = r := by simpa using hrx
        have r1 := hrg 1 (.int .i64 5) rfl
        rw [Nat.zero_mul, Nat.add_zero] at r1
        clear hrg hrx hlen HF
        go_upto_region 12 with (first | ((with_reducible refine m_ax_load X.out 4 ?_ ?_ ?_ ?_); rfl; rfl; rfl; (try simp only [Act.put])) | (go_at_call 17; ((with_reducible refine (bounds_any a S N T _).mono ?_); rintro e v10 ⟨rfl, hb⟩; have X := lh (X.out.below hb (Nat.lt_trans hz hz2)); have hzx := Nat.lt_of_lt_of_le (Nat.lt_trans hz hz2) hb.size; have HB := lh (HB.out.trans (hb.mono HB.out.size)); clear hb r1)))
        obtain ⟨xl, bl, _⟩ := k.boxes1 (w := v10) (c1 := lmA (bounds a)) (t1 := 23) (Below.refl _ _)
        generalize v10.alloc (.cells (lmA (bounds a)) 23) = w11 at xl bl ⊢
        have HB := lh (HB.out.trans (bl.mono HB.out.size))
        have ⟨q3, _⟩ := k.cell_of xl (i := 3) rfl
        have ⟨q4, _⟩ := k.cell_of xl (i := 4) rfl
        have ⟨c1, _⟩ := k.cell_of (X.out.below bl hzx) (i := 1) rfl
        have HORR := lh hor
        clear xl bl hor XN XI HRN HLN HON HOL
        obtain ⟨lo, hlo⟩ : ∃ y, (bounds a).lo = y := ⟨_, rfl⟩
        obtain ⟨hi, hhi⟩ : ∃ y, (bounds a).hi = y := ⟨_, rfl⟩
        rw [hlo] at q3 HORR
        rw [hhi] at q4 HORR
        clear hlo hhi
        by_cases p1 : v < 1
        ·have p1b : decide (v < 1) = true := decide_eq_true p1
         go_wp2
         go_ret
         exact ⟨rfl, HB.out⟩
        ·have p1b : decide (v < 1) = false := decide_eq_false p1
         by_cases p2 : a.l.V < v
         ·have p2b : decide (a.l.V < v) = true := decide_eq_true p2
          go_wp2
          go_ret
          exact ⟨rfl, HB.out⟩
         ·have p2b : decide (a.l.V < v) = false := decide_eq_false p2
          by_cases p3 : a.p + x < lo
          ·have p3b : decide (a.p + x < lo) = true := decide_eq_true p3
           go_wp2
           go_ret
           exact ⟨rfl, HB.out⟩
          ·have p3b : decide (a.p + x < lo) = false := decide_eq_false p3
           have p4b : decide (hi < a.p + x) = true := decide_eq_true (by have := HORR.out; omega)
           go_wp2
           go_ret
           exact ⟨rfl, HB.out⟩
       ·skip
        obtain ⟨bR, oR, r, rfl, hbR, hrx, hrg⟩ := HLN.out.at (i := 0) (by rw [← HLN.out.1, hR1]; exact Nat.succ_pos _)
        have hn2 : (0 : Int) < (n2 : Int) := by rw [← HLN.out.1, hR1]; simp
        rw [hR1] at hrx
        obtain rfl : (id, (1 : Int)) = r := by simpa using hrx
        have r1 := hrg 1 (.int .i64 1) rfl
        rw [Nat.zero_mul, Nat.add_zero] at r1
        clear hrg hrx HF
        go_wp2
        have hge : w.heap.size ≤ gN := Nat.le_of_lt hz
        have hgl : gI < gN := hzi
        go_loopw [13, 15] (fun l i wr => ∃ (j : Nat) (n : Ax) (S1 N1 T1 : Sl) (A1 : Option Addr) (m1 k1 : Nat) (R : List Rp), l = .slice A1 m1 k1 ∧ i = .int .i64 j ∧ Lst id (a.p + x) j n R ∧ k.Box wr gN 0 (axC n S1 N1 T1) ∧ k.Box wr gI 0 (inL goI ⟨none, 0, 0⟩) ∧ RdA wr wr.heap.size n S1 N1 T1 ∧ OffA gN S1 N1 T1 ∧ RdR wr wr.heap.size A1 m1 k1 R ∧ Off gN ⟨A1, m1, k1⟩ ∧ Below w.heap.size w wr ∧ gN < wr.heap.size) (fun _ i _ => 2100 - (intOf i).toNat)
        case atStart => exact ⟨0, n0, S2, N2, T2, _, n2, k2, R0, rfl, rfl, hlst, XN.out, XI.out, HRN.out, HON.out, HLN.out, HOL.out, HB.out, hz2⟩
        case round =>
         clear XN XI HRN HON HLN HOL HB hz2 hlst r1 hn2 hR1 hlen X hz hzi
         obtain ⟨j, n, S1, N1, T1, A1, m1, k1, R, rfl, rfl, hl, hx, hi, hr, ho, hrr, hor, hb, hz⟩ := hrel
         have hj1 : (j : Int) < 2100 := by have := hl.le; omega
         have Q := lh hl
         have XN := lh hx
         have XI := lh hi
         have HRN := lh hr
         have HON := lh ho
         have HLN := lh hrr
         have HOL := lh hor
         have HB := lh hb
         have hlen := hrr.len_le
         clear hl hx hi hr ho hrr hor hb
         go_wp2
         go_loopw [16] (fun i wx => ∃ e : Nat, e ≤ m1 ∧ i = .int .i64 e ∧ (∀ q y, q < e → R[q]? = some y → y ≠ (id, (2 : Int))) ∧ wr = wx) (fun i _ => m1 - (intOf i).toNat)
         case atStart => exact ⟨0, Nat.zero_le _, rfl, fun q y hq => absurd hq (Nat.not_lt_zero _), rfl⟩
         case round =>
          obtain ⟨e, he, rfl, hqq, rfl⟩ := hrel
          have HQQ := lh hqq
          clear hqq
          by_cases hlt2 : e < m1
          ·obtain ⟨bR, oR, y, rfl, hbR, hy, hrg⟩ := HLN.out.at hlt2
           have r0 := hrg 0 _ rfl
           have r1 := hrg 1 _ rfl
           rw [Nat.add_zero] at r0
           have HY := lh hy
           have he0 : (0 : Int) ≤ (e : Int) := by omega
           have he1 : (e : Int) < (m1 : Int) := by omega
           clear hrg hy
           by_cases hd : y = (id, (2 : Int))
           ·have LD : Hid (Ld (a.p + x) n) := lh (by rcases Q.out.st with ⟨_, hn⟩ | ⟨h, _⟩; exact absurd (hd ▸ List.mem_of_getElem? HY.out) hn; exact h)
            subst hd
            dsimp only at r0 r1
            have sn := LD.out.2.2.2
            have or_ := out_room Q.out.good.right
            rw [sn] at or_
            have fn := Q.out.good.right.far
            have pin2 := place_in G.out.right
            have hxx := HX.out
            unfold FarP at fn
            have e18 : IntKind.i64.wrap (a.p + x + n.off) = a.p + x + n.off := IntWalk.i64_in _ (by omega)
            have e19 : IntKind.i64.wrap (n.win * (a.p + x + n.off)) = n.win * (a.p + x + n.off) := IntWalk.i64_in _ (by omega)
            have CO := lh fun (W : World) (hb : Below wr.heap.size wr W) => out_any n Q.out.good (HRN.out.past hb) (Nat.le_refl _)
            rw [sn] at CO
            clear or_ fn pin2 hxx sn
            have ⟨d0, _⟩ := k.cell_of XN.out (i := 0) rfl
            have ⟨d6, _⟩ := k.cell_of XN.out (i := 6) rfl
            have ⟨d10, _⟩ := k.cell_of XN.out (i := 10) rfl
            have ⟨d11, _⟩ := k.cell_of XN.out (i := 11) rfl
            have ⟨d13, _⟩ := k.cell_of XN.out (i := 13) rfl
            rw [LD.out.1] at d0
            rw [LD.out.2.1] at d10
            rw [LD.out.2.2.1] at d11
            go_upto_region 20 with fail
            clear r0 r1
            refine wp_region_T (by kernel_rfl) (fun w' => Below wr.heap.size wr w') [] (Below.refl _ _).drew (fun hHeld => ?_)
            refine tk0 0 rfl ?_ ?_ ?_
            rotate_left
            ·intro; go_simp <;> with_reducible rfl
            try go_simp
            refine tk 1 rfl ?_ ?_ ?_
            rotate_left
            ·intro w_ hSw; have z0 := (hSw.cell (p := ⟨gN, 0, none⟩) hz).trans d0; clear hSw; go_simp <;> (with_reducible rfl)
            try go_simp
            refine tk0 2 rfl ?_ ?_ ?_
            rotate_left
            ·intro; go_simp <;> with_reducible rfl
            try go_simp
            refine tk0 3 rfl ?_ ?_ ?_
            rotate_left
            ·intro; go_simp <;> with_reducible rfl
            try go_simp
            refine tk0 4 rfl ?_ ?_ ?_
            rotate_left
            ·intro; go_simp <;> with_reducible rfl
            try go_simp
            refine tk 5 rfl ?_ ?_ ?_
            rotate_left
            ·intro w_ hSw; have z10 := (hSw.cell (p := ⟨gN, 10, none⟩) hz).trans d10; have z11 := (hSw.cell (p := ⟨gN, 11, none⟩) hz).trans d11; clear hSw; go_simp <;> (with_reducible rfl)
            try go_simp
            refine tk0 6 rfl ?_ ?_ ?_
            rotate_left
            ·intro; go_simp <;> with_reducible rfl
            try go_simp
            refine tk0 7 rfl ?_ ?_ ?_
            rotate_left
            ·intro; go_simp <;> with_reducible rfl
            try go_simp
            refine tk0 8 rfl ?_ ?_ ?_
            rotate_left
            ·intro; go_simp <;> with_reducible rfl
            try go_simp
            refine tk0 9 rfl ?_ ?_ ?_
            rotate_left
            ·intro; go_simp <;> with_reducible rfl
            try go_simp
            refine tk0 10 rfl ?_ ?_ ?_
            rotate_left
            ·intro; go_simp <;> with_reducible rfl
            try go_simp
            refine tkv 11 rfl (axV n S1 N1 T1) (by exact m_y_ax XN.out hz 12 rfl rfl rfl) ?_
            try go_simp
            refine tk0 13 rfl ?_ ?_ ?_
            rotate_left
            ·intro; go_simp <;> with_reducible rfl
            try go_simp
            refine tk 14 rfl ?_ ?_ ?_
            rotate_left
            ·intro w_ hSw; have z6 := (hSw.cell (p := ⟨gN, 6, none⟩) hz).trans d6; clear hSw; go_simp <;> (with_reducible rfl)
            try go_simp
            refine tk0 15 rfl ?_ ?_ ?_
            rotate_left
            ·intro; go_simp <;> with_reducible rfl
            try go_simp
            refine tk0 16 rfl ?_ ?_ ?_
            rotate_left
            ·intro; go_simp <;> with_reducible rfl
            try go_simp
            refine tk 17 rfl ?_ ?_ ?_
            rotate_left
            ·intro w_ hSw; have z13 := (hSw.cell (p := ⟨gN, 13, none⟩) hz).trans d13; clear hSw; go_simp <;> (with_reducible rfl)
            try go_simp
            refine tk0 18 rfl ?_ ?_ ?_
            rotate_left
            ·intro; go_simp <;> with_reducible rfl
            try go_simp
            refine tk0 19 rfl ?_ ?_ ?_
            rotate_left
            ·intro; go_simp <;> with_reducible rfl
            try go_simp
            refine ry [12] ?_
            refine ar1 rfl fun K hK => ?_
            go_simp
            (go_at_call 19; ((with_reducible refine (CO.out _ ((Below.refl _ _).drew)).mono ?_); rintro e_ y4 ⟨rfl, hy4⟩))
            go_wp2_with fail
            have b4 : Below wr.heap.size wr y4 := ((Below.refl _ _).drew).trans hy4
            refine hK.out _ _ b4 (fun hHeld => ?_)
            clear hK K
            try go_simp
            refine tk0 20 rfl ?_ ?_ ?_
            rotate_left
            ·intro; go_simp <;> with_reducible rfl
            try go_simp
            refine tk0 21 rfl ?_ ?_ ?_
            rotate_left
            ·intro; go_simp <;> with_reducible rfl
            try go_simp
            refine tk0 22 rfl ?_ ?_ ?_
            rotate_left
            ·intro; go_simp <;> with_reducible rfl
            try go_simp
            refine wpAnyT_done (by kernel_rfl) ?_ _
            go_wp2
            go_ret
            exact ⟨rfl, HB.out.trans (b4.mono HB.out.size)⟩
           ·have HD := lh hd
            by_cases i1 : y.1 = id
            ·have i2 : ¬ y.2 = 2 := fun h => hd (by rw [← i1, ← h])
             clear hd
             go_wp2
             go_roundw
             case rel => exact ⟨e + 1, by omega, by go_num, fun q z hq hz => by rcases Nat.lt_succ_iff_lt_or_eq.1 hq with h1 | rfl; exact HQQ.out q z h1 hz; (rw [HY.out] at hz; injection hz with hz; rw [← hz]; exact HD.out), (by first | trivial | rfl)⟩
             case measure => simp [intOf]; omega
            ·clear hd
             go_wp2
             go_roundw
             case rel => exact ⟨e + 1, by omega, by go_num, fun q z hq hz => by rcases Nat.lt_succ_iff_lt_or_eq.1 hq with h1 | rfl; exact HQQ.out q z h1 hz; (rw [HY.out] at hz; injection hz with hz; rw [← hz]; exact HD.out), (by first | trivial | rfl)⟩
             case measure => simp [intOf]; omega
          ·have he1 : ¬ (e : Int) < (m1 : Int) := by omega
           have hno : (id, (2 : Int)) ∉ R := fun hm => by obtain ⟨q, hq, eq⟩ := List.getElem_of_mem hm; exact HQQ.out q _ (by have := HLN.out.1; omega) (by rw [List.getElem?_eq_getElem hq, eq]) rfl
           have QN := lh (Q.out.next hno)
           obtain ⟨c, hc⟩ : ∃ c, stepA n goI = c := ⟨_, rfl⟩
           obtain ⟨R2, hR2⟩ : ∃ R, stepR n goI = R := ⟨_, rfl⟩
           rw [hc, hR2] at QN
           have CSN : Hid (∀ (W : World), RdA W W.heap.size n S1 N1 T1 → Calls Tryz.prog 22 #[axV n S1 N1 T1, inV goI ⟨none, 0, 0⟩] W (GotS c R2 S1 N1 T1 ⟨none, 0, 0⟩ W)) := lh fun W h => by
            have h2 := step_any n Q.out.good goI goI_wide (L := ⟨none, 0, 0⟩) h (Rd.none_ _ _ _ _) (Nat.le_refl _) (by decide)
            rw [hc, hR2] at h2
            exact h2
           have hgi' : gI ≠ gN := hgi
           clear hno hc hR2 hlt2 he
           go_wp2_with (first | ((with_reducible refine m_ax_load XN.out 12 ?_ ?_ ?_ ?_); rfl; rfl; rfl; (try simp only [Act.put])) | ((with_reducible refine m_in_load XI.out 9 ?_ ?_ ?_ ?_); rfl; rfl; rfl; (try simp only [Act.put])) | (go_at_call 22; ((with_reducible refine (CSN.out _ HRN.out).mono ?_); rintro e v5 ⟨S2, N2, T2, ⟨A2, n2, k2⟩, rfl, hr, hl, hb, hoff⟩; have hof := hoff gN hz HON.out (fun h => absurd h (Nat.lt_irrefl _)); have HON := lh hof.1; have HOL := lh hof.2; have XN := lh (XN.out.below hb hz); have XI := lh (XI.out.below hb (Nat.lt_trans hgl hz)); have hz2 := Nat.lt_of_lt_of_le hz hb.size; have HRN := lh hr; have HLN := lh hl; have HB := lh (HB.out.trans (hb.mono HB.out.size)); clear hr hl hb hoff hof)) | ((with_reducible refine m_ax_old XN.out c S2 N2 T2 12 151 ?_ ?_ ?_ ?_ ?_ ?_); rfl; rfl; rfl; rfl; rfl; intro w9 hw2 x1 hb2 ha2 hs2; have HRN := lh (show RdA w9 w9.heap.size c S2 N2 T2 by rw [hs2, ← hw2]; exact HRN.out.aside HON.out _); have HLN := lh (show RdR w9 w9.heap.size A2 n2 k2 R2 by rw [hs2, ← hw2]; exact rd_aside (s := ⟨A2, n2, k2⟩) HLN.out HOL.out _); have XI := lh (ha2 _ _ (Ne.symm hgi') XI.out); have HB := lh (HB.out.trans (hb2.mono hge)); rw [← hs2] at hz2; clear hw2; have XN := lh x1; clear x1 hb2 ha2 hs2))
           go_roundw
           case rel => exact ⟨j + 1, c, S2, N2, T2, A2, n2, k2, R2, rfl, by go_num, QN.out, XN.out, XI.out, HRN.out, HON.out, HLN.out, HOL.out, HB.out, hz2⟩
           case measure => simp [intOf]; omega
    ·have hvb : (a.v != 0) = true := bne_iff_ne.2 hv
     clear hv
     go_enter Tryz.func7, Tryz.ntmps7
     go_wp2_with (first | (go_at_call 9; ((with_reducible refine (HK.out _).mono ?_); rintro e v1 ⟨rfl, hb⟩; obtain ⟨x1, hbb, hz⟩ := k.boxes1 hb; have X : Hid (k.Box v1 w.heap.size 0 (axC a S N T)) := lh x1; have HB := lh hbb; have HR := lh (HR.out.past hbb); clear x1 hb hbb)) | ((with_reducible refine m_ax_load X.out 4 ?_ ?_ ?_ ?_); rfl; rfl; rfl; (try simp only [Act.put])) | (go_at_call 15; ((with_reducible refine (HS.out _).mono ?_); rintro e v2 ⟨rfl, hb⟩; have X := lh (X.out.below hb hz); have hz := Nat.lt_of_lt_of_le hz hb.size; have HB := lh (HB.out.trans (hb.mono HB.out.size)); have HR := lh (HR.out.past hb); clear hb)) | (go_at_call 14; ((with_reducible refine (right_any a HW.out HR.out (Nat.le_refl _)).mono ?_); rintro e v3 ⟨rfl, hb⟩; rw [RB.out]; have X := lh (X.out.below hb hz); have hz := Nat.lt_of_lt_of_le hz hb.size; have HB := lh (HB.out.trans (hb.mono HB.out.size)); have HR := lh (HR.out.past hb); have ⟨c0, _⟩ := k.cell_of X.out (i := 0) rfl; have ⟨c11, _⟩ := k.cell_of X.out (i := 11) rfl; have ⟨c14, _⟩ := k.cell_of X.out (i := 14) rfl; rw [H1.out] at c0; rw [HN.out] at c14; clear hb)))
     go_ret
     exact ⟨rfl, HB.out⟩
   ·have h1b : (a.st != 1) = true := bne_iff_ne.2 h1
    clear h1 hR
    go_enter Tryz.func7, Tryz.ntmps7
    go_wp2_with (first | (go_at_call 9; ((with_reducible refine (HK.out _).mono ?_); rintro e v1 ⟨rfl, hb⟩; obtain ⟨x1, hbb, hz⟩ := k.boxes1 hb; have X : Hid (k.Box v1 w.heap.size 0 (axC a S N T)) := lh x1; have HB := lh hbb; have HR := lh (HR.out.past hbb); clear x1 hb hbb)) | ((with_reducible refine m_ax_load X.out 4 ?_ ?_ ?_ ?_); rfl; rfl; rfl; (try simp only [Act.put])) | (go_at_call 15; ((with_reducible refine (HS.out _).mono ?_); rintro e v2 ⟨rfl, hb⟩; have X := lh (X.out.below hb hz); have hz := Nat.lt_of_lt_of_le hz hb.size; have HB := lh (HB.out.trans (hb.mono HB.out.size)); have HR := lh (HR.out.past hb); clear hb)) | (go_at_call 14; ((with_reducible refine (right_any a HW.out HR.out (Nat.le_refl _)).mono ?_); rintro e v3 ⟨rfl, hb⟩; rw [RB.out]; have X := lh (X.out.below hb hz); have hz := Nat.lt_of_lt_of_le hz hb.size; have HB := lh (HB.out.trans (hb.mono HB.out.size)); have HR := lh (HR.out.past hb); have ⟨c0, _⟩ := k.cell_of X.out (i := 0) rfl; clear hb)))
    go_ret
    exact ⟨rfl, HB.out⟩
  ·have RB := lh (rightB_no hR)
   clear hR
   go_enter Tryz.func7, Tryz.ntmps7
   go_wp2_with (first | (go_at_call 9; ((with_reducible refine (HK.out _).mono ?_); rintro e v1 ⟨rfl, hb⟩; obtain ⟨x1, hbb, hz⟩ := k.boxes1 hb; have X : Hid (k.Box v1 w.heap.size 0 (axC a S N T)) := lh x1; have HB := lh hbb; have HR := lh (HR.out.past hbb); clear x1 hb hbb)) | ((with_reducible refine m_ax_load X.out 4 ?_ ?_ ?_ ?_); rfl; rfl; rfl; (try simp only [Act.put])) | (go_at_call 15; ((with_reducible refine (HS.out _).mono ?_); rintro e v2 ⟨rfl, hb⟩; have X := lh (X.out.below hb hz); have hz := Nat.lt_of_lt_of_le hz hb.size; have HB := lh (HB.out.trans (hb.mono HB.out.size)); have HR := lh (HR.out.past hb); clear hb)) | (go_at_call 14; ((with_reducible refine (right_any a HW.out HR.out (Nat.le_refl _)).mono ?_); rintro e v3 ⟨rfl, hb⟩; rw [RB.out]; have X := lh (X.out.below hb hz); have hz := Nat.lt_of_lt_of_le hz hb.size; have HB := lh (HB.out.trans (hb.mono HB.out.size)); have HR := lh (HR.out.past hb); skip; clear hb)))
   go_ret
   exact ⟨rfl, HB.out⟩
 ·rw [Bool.not_eq_true] at hs
  rw [hs] at HS
  clear hs
  go_enter Tryz.func7, Tryz.ntmps7
  go_wp2_with (first | (go_at_call 9; ((with_reducible refine (HK.out _).mono ?_); rintro e v1 ⟨rfl, hb⟩; obtain ⟨x1, hbb, hz⟩ := k.boxes1 hb; have X : Hid (k.Box v1 w.heap.size 0 (axC a S N T)) := lh x1; have HB := lh hbb; have HR := lh (HR.out.past hbb); clear x1 hb hbb)) | ((with_reducible refine m_ax_load X.out 4 ?_ ?_ ?_ ?_); rfl; rfl; rfl; (try simp only [Act.put])) | (go_at_call 15; ((with_reducible refine (HS.out _).mono ?_); rintro e v2 ⟨rfl, hb⟩; have X := lh (X.out.below hb hz); have hz := Nat.lt_of_lt_of_le hz hb.size; have HB := lh (HB.out.trans (hb.mono HB.out.size)); have HR := lh (HR.out.past hb); clear hb)))
  go_ret
  exact ⟨rfl, HB.out⟩
theorem walk (x0 x1 x2 x3 x4 x5 x6 x7 x8 x9 x10 x11 : Int) (x12a : Option Addr) (x12l x12c : Nat) (x12z : List Int) (x13 : Int) (x14a : Option Addr) (x14l x14c : Nat) (x15a : Option Addr) (x15l x15c : Nat) (x16 : Bool) (x17 x18 x19 : Int) (x20 : Bool) (x21 x22 x23 x24 : Int) (x25 : Bool) (id x v : Int) (w : World) (u0 : (Lit.int .i64 x0).wf = true) (u1 : (Lit.int .i64 x1).wf = true) (u2 : (Lit.int .i64 x2).wf = true) (u3 : (Lit.int .i64 x3).wf = true) (u4 : (Lit.int .i64 x4).wf = true) (u5 : (Lit.int .i64 x5).wf = true) (u6 : (Lit.int .i64 x6).wf = true) (u7 : (Lit.int .i64 x7).wf = true) (u8 : (Lit.int .i64 x8).wf = true) (u9 : (Lit.int .i64 x9).wf = true) (u10 : (Lit.int .i64 x10).wf = true) (u11 : (Lit.int .i64 x11).wf = true) (u12 : IsRow .i64 w x12a x12l x12c x12z) (u13 : (Lit.int .i64 x13).wf = true) (u14 : IsRecs w 7 x14a x14l x14c) (u15 : IsRecs w 7 x15a x15l x15c) (u17 : (Lit.int .i64 x17).wf = true) (u18 : (Lit.int .i64 x18).wf = true) (u19 : (Lit.int .i64 x19).wf = true) (u21 : (Lit.int .i64 x21).wf = true) (u22 : (Lit.int .i64 x22).wf = true) (u23 : (Lit.int .i64 x23).wf = true) (u24 : (Lit.int .i64 x24).wf = true) (hid : (Lit.int .i64 id).wf = true) (hx : (Lit.int .i16 x).wf = true) (hv : (Lit.int .i64 v).wf = true) :
  Calls Tryz.prog 7 #[.agg #[.int .i64 x0, .int .i64 x1, .int .i64 x2, .int .i64 x3, .int .i64 x4, .int .i64 x5, .int .i64 x6, .int .i64 x7, .int .i64 x8, .int .i64 x9, .int .i64 x10, .int .i64 x11, .slice x12a x12l x12c, .int .i64 x13, .slice x14a x14l x14c, .slice x15a x15l x15c, .bool x16, .int .i64 x17, .int .i64 x18, .int .i64 x19, .bool x20, .int .i64 x21, .int .i64 x22, .int .i64 x23, .int .i64 x24, .bool x25], .int .i64 id, .int .i16 x, .int .i64 v] w fun e w' => e = .returned (.bool true) ∧ Below w.heap.size w w' := by
 obtain ⟨a, S, N, T, e, hr, hw⟩ := par_axis x0 x1 x2 x3 x4 x5 x6 x7 x8 x9 x10 x11 x12a x12l x12c x12z x13 x14a x14l x14c x15a x15l x15c x16 x17 x18 x19 x20 x21 x22 x23 x24 x25 w u0 u1 u2 u3 u4 u5 u6 u7 u8 u9 u10 u11 u12 u13 u14 u15 u17 u18 u19 u21 u22 u23 u24
 rw [e]
 obtain ⟨x0', x1'⟩ := wf16 hx
 exact walk_in a S N T id x v w hr hw (wf64 hid) x0' x1' (wf64 hv)
end Go.Proofs.YtijlccblabadaaaGreat.axisLands
