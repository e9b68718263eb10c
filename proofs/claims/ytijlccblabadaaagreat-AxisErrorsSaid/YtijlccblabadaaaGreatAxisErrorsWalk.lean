/- The walk of the law AxisErrors: any axis, any cause, whatever comes: it returns true, and what was in memory is as it was. -/
import Derived.Test.YtijlccblabadaaaGreatV15
import Derived.Test.YtijlccblabadaaaGreatU13
import Derived.Test.YtijlccblabadaaaGreatU12
import Derived.Test.YtijlccblabadaaaGreatU02
import Derived.Test.YtijlccblabadaaaGreatX01
namespace Go.Proofs.YtijlccblabadaaaGreat.axisErrors
set_option maxRecDepth 100000
open Go.ChangeShapes Go.WideShapes Go.ChangeAt Go.RowKit Go.Proofs.YtijlccblabadaaaGreat.k Go.Proofs.YtijlccblabadaaaGreat.rr Go.Proofs.YtijlccblabadaaaGreat.ax Go.Proofs.YtijlccblabadaaaGreat
open Go.Proofs.YtijlccblabadaaaGreat.ln (C RdC RdI)
set_option linter.unusedVariables false
/-- the cause comes -/
def causeI (p q : Int) : In := ⟨true, true, p, q, false, false, false, false, false, 100, 0, []⟩
theorem causeI_wide {p q : Int} (hp : InR p) (hq : InR q) : WideI (causeI p q) := by
 have z : InR 0 := ⟨by omega, by omega⟩
 exact ⟨hp, hq, ⟨by show (-9223372036854775808 : Int) ≤ 100; omega, by show (100 : Int) ≤ 9223372036854775807; omega⟩, z, fun x hx => by cases hx⟩
set_option maxRecDepth 100000 in
set_option maxHeartbeats 4000000 in
theorem walk_in (a : Ax) (S N T : Sl) (q : Int) (A : Option Addr) (n cap : Nat) (L : List IS) (w : World) (hr : RdA w w.heap.size a S N T) (hw : WideA a) (hq : InR q) (hl : RdN w w.heap.size A n cap L) (hok : ∀ x ∈ L, OkI w x) :
  Calls Tryz.prog 6 #[axV a S N T, .int .i64 q, .slice A n cap] w fun e w' => e = .returned (.bool true) ∧ Below w.heap.size w w' := by
 have HK := lh fun W => awake_any W
 have HR := lh hr
 have HR0 := lh hr
 have HW := lh hw
 have HL := lh hl
 have HOK := lh hok
 have hlen := hl.len_le
 have HQ := lh hq
 clear hr hw hl hok hq
 by_cases hs : shortsB a N.n T.n S.n L = true
 ·have SB := lh hs
  obtain ⟨_, hsx⟩ := of_decide_eq_true hs
  clear hs
  have HSX := lh hsx
  clear hsx
  by_cases hR : RightA a
  ·have RB := lh (rightB_yes hR)
   have Q0 := lh (GoodA.mk hR HW.out.keep)
   clear hR
   by_cases h0 : a.st = 0
   ·have H0 := lh h0
    clear h0
    go_enter Tryz.func6, Tryz.ntmps6
    go_wp2_with (first | (go_at_call 9; ((with_reducible refine (HK.out _).mono ?_); rintro e v1 ⟨rfl, hb⟩; obtain ⟨x1, hbb, hz⟩ := k.boxes1 hb; have X : Hid (k.Box v1 w.heap.size 0 (axC a S N T)) := lh x1; have HB := lh hbb; have HR := lh (HR.out.past hbb); clear x1 hb hbb)) | ((with_reducible refine m_ax_load X.out 3 ?_ ?_ ?_ ?_); rfl; rfl; rfl; (try simp only [Act.put])) | (go_at_call 21; ((with_reducible refine (short_any a S N T (HL.out.below HB.out) HB.out.size).mono ?_); rintro e v2 ⟨rfl, hb⟩; rw [SB.out]; have X := lh (X.out.below hb hz); have hz := Nat.lt_of_lt_of_le hz hb.size; have HB := lh (HB.out.trans (hb.mono HB.out.size)); have HR := lh (HR.out.past hb); clear hb)) | (go_at_call 14; ((with_reducible refine (right_any a HW.out HR.out (Nat.le_refl _)).mono ?_); rintro e v3 ⟨rfl, hb⟩; rw [RB.out]; have X := lh (X.out.below hb hz); have hz := Nat.lt_of_lt_of_le hz hb.size; have HB := lh (HB.out.trans (hb.mono HB.out.size)); have HR := lh (HR.out.past hb); have ⟨c0, _⟩ := k.cell_of X.out (i := 0) rfl; rw [H0.out] at c0; clear hb)))
    go_ret
    exact ⟨rfl, HB.out⟩
   ·have h0b : (a.st == 0) = false := beq_eq_false_iff_ne.2 h0
    have H0 := lh h0
    clear h0
    by_cases hc : q = 0
    ·subst hc
     go_enter Tryz.func6, Tryz.ntmps6
     go_wp2_with (first | (go_at_call 9; ((with_reducible refine (HK.out _).mono ?_); rintro e v1 ⟨rfl, hb⟩; obtain ⟨x1, hbb, hz⟩ := k.boxes1 hb; have X : Hid (k.Box v1 w.heap.size 0 (axC a S N T)) := lh x1; have HB := lh hbb; have HR := lh (HR.out.past hbb); clear x1 hb hbb)) | ((with_reducible refine m_ax_load X.out 3 ?_ ?_ ?_ ?_); rfl; rfl; rfl; (try simp only [Act.put])) | (go_at_call 21; ((with_reducible refine (short_any a S N T (HL.out.below HB.out) HB.out.size).mono ?_); rintro e v2 ⟨rfl, hb⟩; rw [SB.out]; have X := lh (X.out.below hb hz); have hz := Nat.lt_of_lt_of_le hz hb.size; have HB := lh (HB.out.trans (hb.mono HB.out.size)); have HR := lh (HR.out.past hb); clear hb)) | (go_at_call 14; ((with_reducible refine (right_any a HW.out HR.out (Nat.le_refl _)).mono ?_); rintro e v3 ⟨rfl, hb⟩; rw [RB.out]; have X := lh (X.out.below hb hz); have hz := Nat.lt_of_lt_of_le hz hb.size; have HB := lh (HB.out.trans (hb.mono HB.out.size)); have HR := lh (HR.out.past hb); have ⟨c0, _⟩ := k.cell_of X.out (i := 0) rfl; clear hb)))
     go_ret
     exact ⟨rfl, HB.out⟩
    ·have hcb : (q == 0) = false := beq_eq_false_iff_ne.2 hc
     have HC := lh hc
     clear hc
     have sh := Q0.out.right.short
     have en : N.n ≤ 1 := by rw [← HR.out.N.1]; exact sh.1
     have et : T.n ≤ 4 := by rw [← HR.out.W.1]; exact sh.2.1
     have ew : IntKind.i64.wrap ((N.n : Int) + (T.n : Int)) = (N.n : Int) + (T.n : Int) := IntWalk.i64_in _ (by omega)
     have HLN : Hid (a.N.length = N.n) := lh HR.out.N.1
     have HLT : Hid (a.W.length = T.n) := lh HR.out.W.1
     clear sh en et
     obtain ⟨c, hcs⟩ : ∃ c, stepA a (causeI a.p q) = c := ⟨_, rfl⟩
     obtain ⟨R, hrs⟩ : ∃ R, stepR a (causeI a.p q) = R := ⟨_, rfl⟩
     have hwi := causeI_wide (p := a.p) HW.out.p HQ.out
     have GC : Hid (GoodA c) := lh (hcs ▸ Q0.out.step hwi)
     have HF := lh (err_first Q0.out.right H0.out (i := causeI a.p q) HC.out rfl)
     rw [hcs, hrs] at HF
     have CS0 : Hid (∀ (W : World), RdA W W.heap.size a S N T → Calls Tryz.prog 22 #[axV a S N T, .agg #[.bool true, .bool true, .int .i64 a.p, .int .i64 q, .bool false, .bool false, .bool false, .bool false, .bool false, .int .i64 100, .int .i64 0, .slice none 0 0]] W (GotS c R S N T ⟨none, 0, 0⟩ W)) := lh fun W h => by
      have h2 := step_any a Q0.out (causeI a.p q) hwi (L := ⟨none, 0, 0⟩) h (Rd.none_ _ _ _ _) (Nat.le_refl _) (by decide)
      rw [hcs, hrs] at h2
      exact h2
     clear hcs hrs hwi
     have HO := lh (HR0.out.off (Nat.le_refl _))
     clear HR0
     go_enter Tryz.func6, Tryz.ntmps6
     go_upto_region 5 with (first | (go_at_call 9; ((with_reducible refine (HK.out _).mono ?_); rintro e v1 ⟨rfl, hb⟩; obtain ⟨x1, hbb, hz⟩ := k.boxes1 hb; have X : Hid (k.Box v1 w.heap.size 0 (axC a S N T)) := lh x1; have HB := lh hbb; have HR := lh (HR.out.past hbb); clear x1 hb hbb)) | ((with_reducible refine m_ax_load X.out 3 ?_ ?_ ?_ ?_); rfl; rfl; rfl; (try simp only [Act.put])) | (go_at_call 21; ((with_reducible refine (short_any a S N T (HL.out.below HB.out) HB.out.size).mono ?_); rintro e v2 ⟨rfl, hb⟩; rw [SB.out]; have X := lh (X.out.below hb hz); have hz := Nat.lt_of_lt_of_le hz hb.size; have HB := lh (HB.out.trans (hb.mono HB.out.size)); have HR := lh (HR.out.past hb); clear hb)) | (go_at_call 14; ((with_reducible refine (right_any a HW.out HR.out (Nat.le_refl _)).mono ?_); rintro e v3 ⟨rfl, hb⟩; rw [RB.out]; have X := lh (X.out.below hb hz); have hz := Nat.lt_of_lt_of_le hz hb.size; have HB := lh (HB.out.trans (hb.mono HB.out.size)); have HR := lh (HR.out.past hb); have ⟨c0, _⟩ := k.cell_of X.out (i := 0) rfl; have ⟨c10, _⟩ := k.cell_of X.out (i := 10) rfl; have ⟨c14, _⟩ := k.cell_of X.out (i := 14) rfl; have ⟨c15, _⟩ := k.cell_of X.out (i := 15) rfl; clear hb)))
     go_upto_region 7 with (first | ((with_reducible refine m_ax_load X.out 3 ?_ ?_ ?_ ?_); rfl; rfl; rfl; (try simp only [Act.put])) | (go_at_call 22; ((with_reducible refine (CS0.out _ HR.out).mono ?_); rintro e v5 ⟨S2, N2, T2, ⟨A2, n2, k2⟩, rfl, hr, hl, hb, ho⟩; have HON := lh (ho w.heap.size hz HO.out (fun h => absurd h (Nat.lt_irrefl _))).1; have X := lh (X.out.below hb hz); have hz := Nat.lt_of_lt_of_le hz hb.size; have HB := lh (HB.out.trans (hb.mono HB.out.size)); have HR := lh hr; have HN2 : Hid (R.length = n2) := lh hl.1; clear hr hl hb ho c0 c10 c14 c15)) | ((with_reducible refine m_ax_new (w := v5) c S2 N2 T2 8 53 ?_ ?_ ?_ ?_ ?_ ?_); rfl; rfl; rfl; rfl; rfl; intro v6 x1 hb2 hz2; have XN := lh x1; have X := lh (X.out.below hb2 hz); have hgn := Nat.ne_of_lt hz; have hz := Nat.lt_of_lt_of_le hz hb2.size; have HB := lh (HB.out.trans (hb2.mono HB.out.size)); have HR := lh (HR.out.past hb2); clear x1 hb2))
     have ⟨c0, _⟩ := k.cell_of X.out (i := 0) rfl
     have ⟨d0, _⟩ := k.cell_of XN.out (i := 0) rfl
     have ⟨d14, _⟩ := k.cell_of XN.out (i := 14) rfl
     have ⟨d24, _⟩ := k.cell_of XN.out (i := 24) rfl
     rw [HF.out.1] at d0
     obtain ⟨gc, hgc⟩ : ∃ g, v5.heap.size = g := ⟨_, rfl⟩
     rw [hgc] at hgn XN d0 d14 d24 hz2 ⊢
     clear HO CS0 HK SB RB h0b hcb hgc
     skip
     go_cut [81] from 16 to 82 (fun p wx => p = .bool false ∧ v6 = wx)
     case first =>
      by_cases h7 : a.st = 7
      ·rw [h7] at c0
       clear h7
       go_wp2
       go_meet
       case rel => exact ⟨rfl, rfl⟩
      ·obtain ⟨g1, g2, g3⟩ := HF.out.2 h7
       have h7b : (a.st != 7) = true := bne_iff_ne.2 h7
       have l1 : ((n2 : Int) != (N.n : Int) + (T.n : Int)) = false := by rw [← HN2.out, g2, HLN.out, HLT.out]; simp
       have l2 : N2.n = 0 := by rw [← HR.out.N.1, g3]; rfl
       rw [g1] at d24
       rw [l2] at d14
       clear h7 g1 g2 g3 l2
       go_wp2
       go_meet
       case rel => exact ⟨rfl, rfl⟩
     case rest =>
      obtain ⟨rfl, rfl⟩ := hcut
      clear c0 d0 d14 d24 ew
      go_upto_region 10 with (first | ((with_reducible refine m_ax_load XN.out 8 ?_ ?_ ?_ ?_); rfl; rfl; rfl; (try simp only [Act.put])) | ((with_reducible refine m_ax_old X.out c S2 N2 T2 3 82 ?_ ?_ ?_ ?_ ?_ ?_); rfl; rfl; rfl; rfl; rfl; intro w9 hw2 x1 hb2 ha2 hs2; have HR := lh (show RdA w9 w9.heap.size c S2 N2 T2 by rw [hs2, ← hw2]; exact HR.out.aside HON.out _); have HB := lh (HB.out.trans hb2); rw [← hs2] at hz; clear hw2; have X := lh x1; clear x1 hb2 ha2 hs2))
      have Q7 := lh HF.out.1
      clear XN hz2 HF HN2 HLN HLT Q0
      go_wp2
      go_loopw [10] (fun i wr => ∃ (j : Nat) (b : Ax) (S1 N1 T1 : Sl), j ≤ n ∧ i = .int .i64 j ∧ GoodA b ∧ b.st = 7 ∧ k.Box wr w.heap.size 0 (axC b S1 N1 T1) ∧ RdA wr wr.heap.size b S1 N1 T1 ∧ OffA w.heap.size S1 N1 T1 ∧ Below w.heap.size w wr ∧ w.heap.size < wr.heap.size) (fun i _ => n - (intOf i).toNat)
      case atStart => exact ⟨0, c, S2, N2, T2, Nat.zero_le _, rfl, GC.out, Q7.out, X.out, HR.out, HON.out, HB.out, hz⟩
      case round =>
       clear X HR HB HON hz GC Q7
       obtain ⟨j, b, S1, N1, T1, hj, rfl, hq, h7, hx, hr, ho, hb, hz⟩ := hrel
       have Q := lh hq
       have Q7 := lh h7
       have X := lh hx
       have HR := lh hr
       have HO := lh ho
       have HB := lh hb
       clear hq h7 hx hr ho hb
       by_cases hlt : j < n
       ·obtain ⟨bI, oI, y, rfl, hbI0, hy, hrI⟩ := in_at (HL.out.below HB.out) hlt
        have hbI : bI < wr.heap.size := Nat.lt_trans hbI0 hz
        have HI := lh hrI
        have hy2 := List.mem_of_getElem? hy
        have HY := lh (HOK.out y hy2)
        have HCY := lh (((HY.out.1.below HB.out)).more HB.out.size)
        have HOY : Hid (Off w.heap.size y.2) := lh (off_of HY.out.1 (Nat.le_refl _))
        have HYN : Hid (y.2.n ≤ 20) := lh (of_decide_eq_true (HSX.out y hy2)).2.2.2
        have hj0 : (0 : Int) ≤ (j : Int) := by omega
        have hj1 : (j : Int) < (n : Int) := by omega
        clear hrI hy hy2
        have CS : Hid (∀ (W : World), Below wr.heap.size wr W → Calls Tryz.prog 22 #[axV b S1 N1 T1, inV y.1 y.2] W (GotS (stepA b y.1) (stepR b y.1) S1 N1 T1 y.2 W)) := lh fun W hb => step_any b Q.out y.1 HY.out.2 (HR.out.past hb) (HCY.out.below hb |>.more hb.size) (Nat.le_refl _) HYN.out
        go_upto_region 13 with fail
        go_cut [11, 12] from 83 to 182 (fun p l wx => ∃ (gn : Nat) (S2 N2 T2 L2 : Sl), p = .pointer (some ⟨gn, 0, none⟩) ∧ l = .slice L2.A L2.n L2.c ∧ k.Box wx gn 0 (axC (stepA b y.1) S2 N2 T2) ∧ RdA wx wx.heap.size (stepA b y.1) S2 N2 T2 ∧ RdR wx wx.heap.size L2.A L2.n L2.c (stepR b y.1) ∧ OffA w.heap.size S2 N2 T2 ∧ wr.heap.size ≤ gn ∧ gn < wx.heap.size ∧ Below wr.heap.size wr wx)
        case first =>
         refine wp_region_T (by kernel_rfl) (fun w' => Below wr.heap.size wr w') [] (Below.refl _ _).drew (fun hHeld => ?_)
         refine tkv 0 rfl (axV b S1 N1 T1) (by exact m_y_ax X.out hz 3 rfl rfl rfl) ?_
         try go_simp
         refine tk0 1 rfl ?_ ?_ ?_
         rotate_left
         ·intro; go_simp <;> with_reducible rfl
         try go_simp
         refine tk0 2 rfl ?_ ?_ ?_
         rotate_left
         ·intro; go_simp <;> with_reducible rfl
         try go_simp
         refine tk0 3 rfl ?_ ?_ ?_
         rotate_left
         ·intro; go_simp <;> with_reducible rfl
         try go_simp
         refine tkv 4 rfl (inV y.1 y.2) (by exact m_y_in HI.out hbI 93 rfl rfl rfl) ?_
         try go_simp
         refine ry [5, 9] ?_
         refine AllReadyT.cons rfl (fun K hK => ?_) (AllReadyT.cons rfl (fun K hK => ?_) AllReadyT.nil)
         ·go_simp
          (go_at_call 22; ((with_reducible refine (CS.out _ ((Below.refl _ _).drew)).mono ?_); rintro e w5 ⟨S2, N2, T2, L2, rfl, hr, hl, hb0, ho⟩))
          go_wp2_with fail
          have hb : Below wr.heap.size wr w5 := ((Below.refl _ _).drew).trans hb0
          have hO2 := ho w.heap.size hz HO.out HOY.out
          refine hK.out _ _ hb (fun hHeld => ?_)
          clear hK K
          try go_simp
          refine tk0 6 rfl ?_ ?_ ?_
          rotate_left
          ·intro; go_simp <;> with_reducible rfl
          try go_simp
          refine tk0 7 rfl ?_ ?_ ?_
          rotate_left
          ·intro; go_simp <;> with_reducible rfl
          try go_simp
          refine tk0 8 rfl ?_ ?_ ?_
          rotate_left
          ·intro; go_simp <;> with_reducible rfl
          try go_simp
          refine ry [9] ?_
          refine ar1 rfl fun K hK => ?_
          go_wp2_with fail
          refine hK.out _ _ (hb.alloc hb.size _) (fun hHeld => ?_)
          clear hK K
          try go_simp
          refine ry [10] ?_
          refine ar1 rfl fun K hK => ?_
          rw [if_pos (by rfl)]
          refine m_w_new (w := w5) (stepA b y.1) S2 N2 T2 11 96 rfl rfl rfl rfl ?_
          intro w6 x6 hb6 hz6
          have hbw : Below wr.heap.size wr w6 := hb.trans (hb6.mono hb.size)
          refine hK.out _ _ hbw (fun hHeld => ?_)
          clear hK K
          try go_simp
          refine tk0 11 rfl ?_ ?_ ?_
          rotate_left
          ·intro; go_simp <;> with_reducible rfl
          try go_simp
          refine wpAnyT_done (by kernel_rfl) ?_ _
          go_wp2_with fail
          go_meet
          case rel => exact ⟨_, S2, N2, T2, L2, rfl, rfl, x6, hr.past hb6, (hl.below hb6).more hb6.size, hO2.1, hb.size, hz6, hbw⟩
         ·go_wp2_with fail
          have ha : Below wr.heap.size wr (wr.alloc (.cells zAx 35)).drew := ((Below.refl _ _).alloc (Nat.le_refl _) _).drew
          refine hK.out _ _ ha (fun hHeld => ?_)
          clear hK K
          try go_simp
          refine ry [5] ?_
          refine ar1 rfl fun K hK => ?_
          go_simp
          (go_at_call 22; ((with_reducible refine (CS.out _ ha).mono ?_); rintro e w5 ⟨S2, N2, T2, L2, rfl, hr, hl, hb0, ho⟩))
          go_wp2_with fail
          have hb1 : Below (wr.alloc (.cells zAx 35)).heap.size (wr.alloc (.cells zAx 35)) w5 := ((Below.refl _ _).drew).trans hb0
          obtain ⟨z1, zb, zh⟩ := k.boxes1 (w := wr) (c1 := zAx) (t1 := 35) hb1
          have hb : Below wr.heap.size wr w5 := ha.trans (hb0.mono ha.size)
          have hO2 := ho w.heap.size (Nat.lt_of_lt_of_le hz ha.size) HO.out HOY.out
          have hO3 := (ho wr.heap.size (show wr.heap.size < (wr.alloc (.cells zAx 35)).heap.size by simp) (HR.out.off (Nat.le_refl _)) (off_of HCY.out (Nat.le_refl _)))
          refine hK.out _ _ hb (fun hHeld => ?_)
          clear hK K
          try go_simp
          refine tk0 6 rfl ?_ ?_ ?_
          rotate_left
          ·intro; go_simp <;> with_reducible rfl
          try go_simp
          refine tk0 7 rfl ?_ ?_ ?_
          rotate_left
          ·intro; go_simp <;> with_reducible rfl
          try go_simp
          refine tk0 8 rfl ?_ ?_ ?_
          rotate_left
          ·intro; go_simp <;> with_reducible rfl
          try go_simp
          refine ry [10] ?_
          refine ar1 rfl fun K hK => ?_
          rw [if_pos (by rfl)]
          refine m_w_old (g := wr.heap.size) (vs := zAx.toList) z1 rfl (stepA b y.1) S2 N2 T2 11 96 rfl rfl rfl rfl ?_
          intro w6 hw6 x6 hb6 ha6 hs6
          have hbw : Below wr.heap.size wr w6 := hb.trans hb6
          refine hK.out _ _ hbw (fun hHeld => ?_)
          clear hK K
          try go_simp
          refine tk0 11 rfl ?_ ?_ ?_
          rotate_left
          ·intro; go_simp <;> with_reducible rfl
          try go_simp
          refine wpAnyT_done (by kernel_rfl) ?_ _
          go_wp2_with fail
          go_meet
          case rel => exact ⟨_, S2, N2, T2, L2, rfl, rfl, x6, (by rw [hs6, ← hw6]; exact hr.aside hO3.1 _), (by rw [hs6, ← hw6]; exact rd_aside (s := L2) hl hO3.2 _), hO2.1, Nat.le_refl _, (by rw [hs6]; exact zh), hbw⟩
        case rest =>
         obtain ⟨gn, S2, N2, T2, ⟨A2, n2, k2⟩, rfl, rfl, hx2, hr2, hl2, ho2, hge, hzn, hbw⟩ := hcut
         obtain ⟨c, hc⟩ : ∃ c, stepA b y.1 = c := ⟨_, rfl⟩
         obtain ⟨R, hR⟩ : ∃ R, stepR b y.1 = R := ⟨_, rfl⟩
         have GC : Hid (GoodA c) := lh (hc ▸ Q.out.step HY.out.2)
         have HE := lh (err_next Q.out.right Q7.out y.1)
         rw [hc, hR] at HE
         have HNB : Hid (b.N = []) := lh (Q.out.right.none (.inr (.inr Q7.out))).1
         have hn1 : N1.n = 0 := by rw [← HR.out.N.1, HNB.out]; rfl
         rw [hc] at hx2 hr2
         rw [hR] at hl2
         clear hc hR CS
         have X := lh (X.out.below hbw hz)
         have XN := lh hx2
         have HRN := lh hr2
         have HLN := lh hl2
         have HON := lh ho2
         have hzc := Nat.lt_of_lt_of_le hz hbw.size
         have HB := lh (HB.out.trans (hbw.mono HB.out.size))
         have HI := lh (range_below HI.out hbw hbI)
         clear hx2 hr2 hl2 ho2 hbw HR HO HCY HOY HYN
         have ⟨c0, _⟩ := k.cell_of X.out (i := 0) rfl
         have ⟨c3, _⟩ := k.cell_of X.out (i := 3) rfl
         have ⟨c11, _⟩ := k.cell_of X.out (i := 11) rfl
         have ⟨c14, _⟩ := k.cell_of X.out (i := 14) rfl
         have ⟨d0, _⟩ := k.cell_of XN.out (i := 0) rfl
         have ⟨d11, _⟩ := k.cell_of XN.out (i := 11) rfl
         rw [hn1] at c14
         clear hn1 HNB
         by_cases h7 : c.st = 7
         ·skip
          obtain ⟨e1, e2, e3, e4⟩ := HE.out.2 h7
          rw [h7] at d0
          have H7 := lh h7
          have bw := Q.out.wide
          have cw := GC.out.wide
          have bv := Q.out.right.safe
          have cv := GC.out.right.safe
          have bl := Q.out.right.limits
          have en : IntKind.i64.wrap (-b.v) = -b.v := IntWalk.i64_in _ (by have := bv.2.2.1; have := bv.2.2.2.1; omega)
          have en2 : IntKind.i64.wrap (-c.v) = -c.v := IntWalk.i64_in _ (by have := cv.2.2.1; have := cv.2.2.2.1; omega)
          have en3 : IntKind.i64.wrap (max b.v (-b.v) - b.l.D) = max b.v (-b.v) - b.l.D := IntWalk.i64_in _ (by have := bv.2.2.1; have := bv.2.2.2.1; have := bl.2.2.2.2.1; have := bl.2.2.2.2.2.1; omega)
          have k1 : decide (max (max b.v (-b.v) - b.l.D) 0 < max c.v (-c.v)) = false := decide_eq_false (by omega)
          have HA := lh e2
          clear h7 e1 e2 e3 e4 bw cw bv cv bl HE
          go_upto_region 16 with fail
          go_quiet (fail)
          have X := lh (X.out.drawn nq)
          have XN := lh (XN.out.drawn nq)
          have HRN := lh (HRN.out.past (below_drawn (Below.refl _ _) nq))
          have HLN := lh ((HLN.out.below (below_drawn (Below.refl _ _) nq)).more (below_drawn (Below.refl wc.heap.size wc) nq).size)
          have HB := lh (below_drawn HB.out nq)
          have hzc := Nat.lt_of_lt_of_le hzc (below_drawn (Below.refl wc.heap.size wc) nq).size
          clear c0 c3 c11 c14 d0 d11 HI
          generalize wc.drewN nq = wd at X XN HRN HLN HB hzc ⊢
          have ⟨c3, _⟩ := k.cell_of X.out (i := 3) rfl
          have ⟨c14, _⟩ := k.cell_of X.out (i := 14) rfl
          have hlen2 := HLN.out.len_le
          go_wp2
          go_loopw [15] (fun i wx => ∃ e : Nat, e ≤ n2 ∧ i = .int .i64 e ∧ wd = wx) (fun i _ => n2 - (intOf i).toNat)
          case atStart => exact ⟨0, Nat.zero_le _, rfl, rfl⟩
          case round =>
           obtain ⟨e, he, rfl, rfl⟩ := hrel
           by_cases hlt2 : e < n2
           ·obtain ⟨bR, oR, x, rfl, hbR, hx, hrg⟩ := HLN.out.at hlt2
            have r1 := hrg 1 _ rfl
            rw [HA.out x (List.mem_of_getElem? hx)] at r1
            have he0 : (0 : Int) ≤ (e : Int) := by omega
            have he1 : (e : Int) < (n2 : Int) := by omega
            clear hrg hx
            go_wp2
            go_roundw
            case rel => exact ⟨e + 1, by omega, by go_num, (by first | trivial | rfl)⟩
            case measure => simp [intOf]; omega
           ·have he1 : ¬ (e : Int) < (n2 : Int) := by omega
            clear c3 c14
            go_wp2_with (first | ((with_reducible refine m_ax_load XN.out 11 ?_ ?_ ?_ ?_); rfl; rfl; rfl; (try simp only [Act.put])) | ((with_reducible refine m_ax_old X.out c S2 N2 T2 3 182 ?_ ?_ ?_ ?_ ?_ ?_); rfl; rfl; rfl; rfl; rfl; intro w9 hw2 x1 hb2 ha2 hs2; have HR := lh (show RdA w9 w9.heap.size c S2 N2 T2 by rw [hs2, ← hw2]; exact HRN.out.aside HON.out _); have HB := lh (HB.out.trans hb2); rw [← hs2] at hzc; clear hw2; have X := lh x1; clear x1 hb2 ha2 hs2))
            go_roundw
            case rel => exact ⟨j + 1, c, S2, N2, T2, by omega, by go_num, GC.out, H7.out, X.out, HR.out, HON.out, HB.out, hzc⟩
            case measure => simp [intOf]; omega
         ·obtain ⟨e1, e2, e3, e4, e5⟩ := HE.out.1 h7
          have i1 := HI.out 1 _ rfl
          have i3 := HI.out 3 _ rfl
          have i7 := HI.out 7 _ rfl
          rw [e2] at i7
          rw [e3] at i1
          rw [e4] at i3
          rw [e1] at d0
          rw [e5] at c11
          clear h7 e1 e2 e3 e4 e5 HE
          go_wp2
          go_ret
          exact ⟨rfl, HB.out⟩
       ·have hj1 : ¬ (j : Int) < (n : Int) := by omega
        go_wp2
        go_ret
        exact ⟨rfl, HB.out⟩
  ·have RB := lh (rightB_no hR)
   clear hR
   go_enter Tryz.func6, Tryz.ntmps6
   go_wp2_with (first | (go_at_call 9; ((with_reducible refine (HK.out _).mono ?_); rintro e v1 ⟨rfl, hb⟩; obtain ⟨x1, hbb, hz⟩ := k.boxes1 hb; have X : Hid (k.Box v1 w.heap.size 0 (axC a S N T)) := lh x1; have HB := lh hbb; have HR := lh (HR.out.past hbb); clear x1 hb hbb)) | ((with_reducible refine m_ax_load X.out 3 ?_ ?_ ?_ ?_); rfl; rfl; rfl; (try simp only [Act.put])) | (go_at_call 21; ((with_reducible refine (short_any a S N T (HL.out.below HB.out) HB.out.size).mono ?_); rintro e v2 ⟨rfl, hb⟩; rw [SB.out]; have X := lh (X.out.below hb hz); have hz := Nat.lt_of_lt_of_le hz hb.size; have HB := lh (HB.out.trans (hb.mono HB.out.size)); have HR := lh (HR.out.past hb); clear hb)) | (go_at_call 14; ((with_reducible refine (right_any a HW.out HR.out (Nat.le_refl _)).mono ?_); rintro e v3 ⟨rfl, hb⟩; rw [RB.out]; have X := lh (X.out.below hb hz); have hz := Nat.lt_of_lt_of_le hz hb.size; have HB := lh (HB.out.trans (hb.mono HB.out.size)); have HR := lh (HR.out.past hb); skip; clear hb)))
   go_ret
   exact ⟨rfl, HB.out⟩
 ·have SB := lh (Bool.not_eq_true _ ▸ hs : shortsB a N.n T.n S.n L = false)
  clear hs
  go_enter Tryz.func6, Tryz.ntmps6
  go_wp2_with (first | (go_at_call 9; ((with_reducible refine (HK.out _).mono ?_); rintro e v1 ⟨rfl, hb⟩; obtain ⟨x1, hbb, hz⟩ := k.boxes1 hb; have X : Hid (k.Box v1 w.heap.size 0 (axC a S N T)) := lh x1; have HB := lh hbb; have HR := lh (HR.out.past hbb); clear x1 hb hbb)) | ((with_reducible refine m_ax_load X.out 3 ?_ ?_ ?_ ?_); rfl; rfl; rfl; (try simp only [Act.put])) | (go_at_call 21; ((with_reducible refine (short_any a S N T (HL.out.below HB.out) HB.out.size).mono ?_); rintro e v2 ⟨rfl, hb⟩; rw [SB.out]; have X := lh (X.out.below hb hz); have hz := Nat.lt_of_lt_of_le hz hb.size; have HB := lh (HB.out.trans (hb.mono HB.out.size)); have HR := lh (HR.out.past hb); clear hb)))
  go_ret
  exact ⟨rfl, HB.out⟩
theorem walk (x0 x1 x2 x3 x4 x5 x6 x7 x8 x9 x10 x11 : Int) (x12a : Option Addr) (x12l x12c : Nat) (x12z : List Int) (x13 : Int) (x14a : Option Addr) (x14l x14c : Nat) (x15a : Option Addr) (x15l x15c : Nat) (x16 : Bool) (x17 x18 x19 : Int) (x20 : Bool) (x21 x22 x23 x24 : Int) (x25 : Bool) (q : Int) (ya : Option Addr) (yl yc : Nat) (w : World) (u0 : (Lit.int .i64 x0).wf = true) (u1 : (Lit.int .i64 x1).wf = true) (u2 : (Lit.int .i64 x2).wf = true) (u3 : (Lit.int .i64 x3).wf = true) (u4 : (Lit.int .i64 x4).wf = true) (u5 : (Lit.int .i64 x5).wf = true) (u6 : (Lit.int .i64 x6).wf = true) (u7 : (Lit.int .i64 x7).wf = true) (u8 : (Lit.int .i64 x8).wf = true) (u9 : (Lit.int .i64 x9).wf = true) (u10 : (Lit.int .i64 x10).wf = true) (u11 : (Lit.int .i64 x11).wf = true) (u12 : IsRow .i64 w x12a x12l x12c x12z) (u13 : (Lit.int .i64 x13).wf = true) (u14 : IsRecs w 7 x14a x14l x14c) (u15 : IsRecs w 7 x15a x15l x15c) (u17 : (Lit.int .i64 x17).wf = true) (u18 : (Lit.int .i64 x18).wf = true) (u19 : (Lit.int .i64 x19).wf = true) (u21 : (Lit.int .i64 x21).wf = true) (u22 : (Lit.int .i64 x22).wf = true) (u23 : (Lit.int .i64 x23).wf = true) (u24 : (Lit.int .i64 x24).wf = true) (hq : (Lit.int .i64 q).wf = true) (v : IsIns w [.bool, .bool, .int .i64, .int .i64, .bool, .bool, .bool, .bool, .bool, .int .i64, .int .i64, .recs 7] ya yl yc) :
  Calls Tryz.prog 6 #[.agg #[.int .i64 x0, .int .i64 x1, .int .i64 x2, .int .i64 x3, .int .i64 x4, .int .i64 x5, .int .i64 x6, .int .i64 x7, .int .i64 x8, .int .i64 x9, .int .i64 x10, .int .i64 x11, .slice x12a x12l x12c, .int .i64 x13, .slice x14a x14l x14c, .slice x15a x15l x15c, .bool x16, .int .i64 x17, .int .i64 x18, .int .i64 x19, .bool x20, .int .i64 x21, .int .i64 x22, .int .i64 x23, .int .i64 x24, .bool x25], .int .i64 q, .slice ya yl yc] w fun e w' => e = .returned (.bool true) ∧ Below w.heap.size w w' := by
 obtain ⟨a, S, N, T, e, hr, hw⟩ := par_axis x0 x1 x2 x3 x4 x5 x6 x7 x8 x9 x10 x11 x12a x12l x12c x12z x13 x14a x14l x14c x15a x15l x15c x16 x17 x18 x19 x20 x21 x22 x23 x24 x25 w u0 u1 u2 u3 u4 u5 u6 u7 u8 u9 u10 u11 u12 u13 u14 u15 u17 u18 u19 u21 u22 u23 u24
 rw [e]
 obtain ⟨L, hl, hok⟩ := par_ins v
 exact walk_in a S N T q ya yl yc L w hr hw (wf64 hq) hl hok
end Go.Proofs.YtijlccblabadaaaGreat.axisErrors
