/- The walk of the law AxisSafe: any axis, whatever comes: it returns true, and what was in memory is as it was. -/
import Derived.Test.YtijlccblabadaaaGreatV15
import Derived.Test.YtijlccblabadaaaGreatU13
import Derived.Test.YtijlccblabadaaaGreatU12
import Derived.Test.YtijlccblabadaaaGreatU02
import Derived.Test.YtijlccblabadaaaGreatX01
namespace Go.Proofs.YtijlccblabadaaaGreat.axisSafe
set_option maxRecDepth 100000
open Go.ChangeShapes Go.WideShapes Go.ChangeAt Go.RowKit Go.Proofs.YtijlccblabadaaaGreat.k Go.Proofs.YtijlccblabadaaaGreat.rr Go.Proofs.YtijlccblabadaaaGreat.ax Go.Proofs.YtijlccblabadaaaGreat
open Go.Proofs.YtijlccblabadaaaGreat.ln (C RdC RdI)
set_option linter.unusedVariables false
theorem out_room {a : Ax} (h : RightA a) : -9000000000000000000 ≤ outA a ∧ outA a ≤ 9000000000000000000 := by
 have key : ∀ L : List Int, (∀ x ∈ L, -2199023255552 ≤ x ∧ x ≤ 2199023255552) → -(2199023255552 * (L.length : Int)) ≤ sumOf L ∧ sumOf L ≤ 2199023255552 * (L.length : Int) := fun L => by
  induction L with
  | nil => intro _; exact ⟨by decide, by decide⟩
  | cons x L ih =>
   intro hx
   have h1 := ih fun y hy => hx y (List.mem_cons_of_mem _ hy)
   have h2 := hx x (List.mem_cons_self ..)
   show -(2199023255552 * ((L.length + 1 : Nat) : Int)) ≤ x + sumOf L ∧ x + sumOf L ≤ 2199023255552 * ((L.length + 1 : Nat) : Int)
   omega
 have hk := key a.sm h.rows
 have hl := h.len
 have hw1 := h.win1
 have hw2 := h.made.2.2.1
 obtain ⟨f1, f2⟩ := h.far
 have m1 : a.win * a.off ≤ 16 * 288230376151711744 := by
  have e1 : a.win * a.off ≤ a.win * 288230376151711744 := Int.mul_le_mul_of_nonneg_left f2 (by omega)
  omega
 have m2 : -(16 * 288230376151711744) ≤ a.win * a.off := by
  have e1 : a.win * (-288230376151711744) ≤ a.win * a.off := Int.mul_le_mul_of_nonneg_left f1 (by omega)
  omega
 unfold outA
 omega
set_option maxRecDepth 100000 in
set_option maxHeartbeats 4000000 in
theorem walk_in (a : Ax) (S N T : Sl) (A : Option Addr) (n cap : Nat) (L : List IS) (w : World) (hr : RdA w w.heap.size a S N T) (hw : WideA a) (hl : RdN w w.heap.size A n cap L) (hok : ∀ x ∈ L, OkI w x) :
  Calls Tryz.prog 4 #[axV a S N T, .slice A n cap] w fun e w' => e = .returned (.bool true) ∧ Below w.heap.size w w' := by
 have HK := lh fun W => awake_any W
 have HR := lh hr
 have HR0 := lh hr
 have HW := lh hw
 have HL := lh hl
 have HOK := lh hok
 have hlen := hl.len_le
 clear hr hw hl hok
 by_cases hs : shortsB a N.n T.n S.n L = true
 ·have SB := lh hs
  obtain ⟨_, hsx⟩ := of_decide_eq_true hs
  clear hs
  have HSX := lh hsx
  clear hsx
  by_cases hR : RightA a
  ·have RB := lh (rightB_yes hR)
   have Q0 := lh (GoodA.mk hR HW.out.keep)
   clear hR
   go_enter Tryz.func4, Tryz.ntmps4
   go_upto_region 5 with (first | (go_at_call 9; ((with_reducible refine (HK.out _).mono ?_); rintro e v1 ⟨rfl, hb⟩; obtain ⟨x1, hbb, hz⟩ := k.boxes1 hb; have X : Hid (k.Box v1 w.heap.size 0 (axC a S N T)) := lh x1; have HB := lh hbb; have HR := lh (HR.out.past hbb); clear x1 hb hbb)) | ((with_reducible refine m_ax_load X.out 2 ?_ ?_ ?_ ?_); rfl; rfl; rfl; (try simp only [Act.put])) | (go_at_call 21; ((with_reducible refine (short_any a S N T (HL.out.below HB.out) HB.out.size).mono ?_); rintro e v2 ⟨rfl, hb⟩; rw [SB.out]; have X := lh (X.out.below hb hz); have hz := Nat.lt_of_lt_of_le hz hb.size; have HB := lh (HB.out.trans (hb.mono HB.out.size)); have HR := lh (HR.out.past hb); clear hb)) | (go_at_call 14; ((with_reducible refine (right_any a HW.out HR.out (Nat.le_refl _)).mono ?_); rintro e v3 ⟨rfl, hb⟩; rw [RB.out]; have X := lh (X.out.below hb hz); have hz := Nat.lt_of_lt_of_le hz hb.size; have HB := lh (HB.out.trans (hb.mono HB.out.size)); have HR := lh (HR.out.past hb); skip; clear hb)))
   have HO := lh (HR0.out.off (Nat.le_refl _))
   clear HR0 HK SB RB
   go_wp2
   go_loopw [5] (fun i wr => ∃ (j : Nat) (b : Ax) (S1 N1 T1 : Sl), j ≤ n ∧ i = .int .i64 j ∧ GoodA b ∧ k.Box wr w.heap.size 0 (axC b S1 N1 T1) ∧ RdA wr wr.heap.size b S1 N1 T1 ∧ OffA w.heap.size S1 N1 T1 ∧ Below w.heap.size w wr ∧ w.heap.size < wr.heap.size) (fun i _ => n - (intOf i).toNat)
   case atStart => exact ⟨0, a, S, N, T, Nat.zero_le _, rfl, Q0.out, X.out, HR.out, HO.out, HB.out, hz⟩
   case round =>
    clear X HR HB HO hz Q0
    obtain ⟨j, b, S1, N1, T1, hj, rfl, hq, hx, hr, ho, hb, hz⟩ := hrel
    have Q := lh hq
    have X := lh hx
    have HR := lh hr
    have HO := lh ho
    have HB := lh hb
    clear hq hx hr ho hb
    by_cases hlt : j < n
    ·obtain ⟨bI, oI, y, rfl, hbI0, hy, hrI⟩ := in_at (HL.out.below HB.out) hlt
     have hbI : bI < wr.heap.size := Nat.lt_trans hbI0 hz
     have HI := lh hrI
     have hy2 := List.mem_of_getElem? hy
     have HY := lh (HOK.out y hy2)
     have HCY := lh (((HY.out.1.below HB.out)).more HB.out.size)
     have HOY : Hid (Off w.heap.size y.2) := lh (off_of HY.out.1 (Nat.le_refl _))
     have HYN : Hid (y.2.n ≤ 20) := lh (of_decide_eq_true (HSX.out y hy2)).2.2.2
     have hj0 : (0 : Int) ≤ (j : Int) := by omega
     have hj1 : (j : Int) < (n : Int) := by omega
     clear hrI hy hy2
     have CS : Hid (∀ (W : World), Below wr.heap.size wr W → Calls Tryz.prog 22 #[axV b S1 N1 T1, inV y.1 y.2] W (GotS (stepA b y.1) (stepR b y.1) S1 N1 T1 y.2 W)) := lh fun W hb => step_any b Q.out y.1 HY.out.2 (HR.out.past hb) (HCY.out.below hb |>.more hb.size) (Nat.le_refl _) HYN.out
     go_upto_region 8 with fail
     go_cut [6, 7] from 21 to 84 (fun p l wx => ∃ (gn : Nat) (S2 N2 T2 L2 : Sl), p = .pointer (some ⟨gn, 0, none⟩) ∧ l = .slice L2.A L2.n L2.c ∧ k.Box wx gn 0 (axC (stepA b y.1) S2 N2 T2) ∧ RdA wx wx.heap.size (stepA b y.1) S2 N2 T2 ∧ RdR wx wx.heap.size L2.A L2.n L2.c (stepR b y.1) ∧ OffA w.heap.size S2 N2 T2 ∧ wr.heap.size ≤ gn ∧ gn < wx.heap.size ∧ Below wr.heap.size wr wx)
     case first =>
      refine wp_region_T (by kernel_rfl) (fun w' => Below wr.heap.size wr w') [] (Below.refl _ _).drew (fun hHeld => ?_)
      refine tkv 0 rfl (axV b S1 N1 T1) (by exact m_y_ax X.out hz 2 rfl rfl rfl) ?_
      try go_simp
      refine tk0 1 rfl ?_ ?_ ?_
      rotate_left
      ·intro; go_simp <;> with_reducible rfl
      try go_simp
      refine tk0 2 rfl ?_ ?_ ?_
      rotate_left
      ·intro; go_simp <;> with_reducible rfl
      try go_simp
      refine tk0 3 rfl ?_ ?_ ?_
      rotate_left
      ·intro; go_simp <;> with_reducible rfl
      try go_simp
      refine tkv 4 rfl (inV y.1 y.2) (by exact m_y_in HI.out hbI 31 rfl rfl rfl) ?_
      try go_simp
      refine ry [5, 9] ?_
      refine AllReadyT.cons rfl (fun K hK => ?_) (AllReadyT.cons rfl (fun K hK => ?_) AllReadyT.nil)
      ·go_simp
       (go_at_call 22; ((with_reducible refine (CS.out _ ((Below.refl _ _).drew)).mono ?_); rintro e w5 ⟨S2, N2, T2, L2, rfl, hr, hl, hb0, ho⟩))
       go_wp2_with fail
       have hb : Below wr.heap.size wr w5 := ((Below.refl _ _).drew).trans hb0
       have hO2 := ho w.heap.size hz HO.out HOY.out
       refine hK.out _ _ hb (fun hHeld => ?_)
       clear hK K
       try go_simp
       refine tk0 6 rfl ?_ ?_ ?_
       rotate_left
       ·intro; go_simp <;> with_reducible rfl
       try go_simp
       refine tk0 7 rfl ?_ ?_ ?_
       rotate_left
       ·intro; go_simp <;> with_reducible rfl
       try go_simp
       refine tk0 8 rfl ?_ ?_ ?_
       rotate_left
       ·intro; go_simp <;> with_reducible rfl
       try go_simp
       refine ry [9] ?_
       refine ar1 rfl fun K hK => ?_
       go_wp2_with fail
       refine hK.out _ _ (hb.alloc hb.size _) (fun hHeld => ?_)
       clear hK K
       try go_simp
       refine ry [10] ?_
       refine ar1 rfl fun K hK => ?_
       rw [if_pos (by rfl)]
       refine m_w_new (w := w5) (stepA b y.1) S2 N2 T2 6 34 rfl rfl rfl rfl ?_
       intro w6 x6 hb6 hz6
       have hbw : Below wr.heap.size wr w6 := hb.trans (hb6.mono hb.size)
       refine hK.out _ _ hbw (fun hHeld => ?_)
       clear hK K
       try go_simp
       refine tk0 11 rfl ?_ ?_ ?_
       rotate_left
       ·intro; go_simp <;> with_reducible rfl
       try go_simp
       refine wpAnyT_done (by kernel_rfl) ?_ _
       go_wp2_with fail
       go_meet
       case rel => exact ⟨_, S2, N2, T2, L2, rfl, rfl, x6, hr.past hb6, (hl.below hb6).more hb6.size, hO2.1, hb.size, hz6, hbw⟩
      ·go_wp2_with fail
       have ha : Below wr.heap.size wr (wr.alloc (.cells zAx 35)).drew := ((Below.refl _ _).alloc (Nat.le_refl _) _).drew
       refine hK.out _ _ ha (fun hHeld => ?_)
       clear hK K
       try go_simp
       refine ry [5] ?_
       refine ar1 rfl fun K hK => ?_
       go_simp
       (go_at_call 22; ((with_reducible refine (CS.out _ ha).mono ?_); rintro e w5 ⟨S2, N2, T2, L2, rfl, hr, hl, hb0, ho⟩))
       go_wp2_with fail
       have hb1 : Below (wr.alloc (.cells zAx 35)).heap.size (wr.alloc (.cells zAx 35)) w5 := ((Below.refl _ _).drew).trans hb0
       obtain ⟨z1, zb, zh⟩ := k.boxes1 (w := wr) (c1 := zAx) (t1 := 35) hb1
       have hb : Below wr.heap.size wr w5 := ha.trans (hb0.mono ha.size)
       have hO2 := ho w.heap.size (Nat.lt_of_lt_of_le hz ha.size) HO.out HOY.out
       have hO3 := (ho wr.heap.size (show wr.heap.size < (wr.alloc (.cells zAx 35)).heap.size by simp) (HR.out.off (Nat.le_refl _)) (off_of HCY.out (Nat.le_refl _)))
       refine hK.out _ _ hb (fun hHeld => ?_)
       clear hK K
       try go_simp
       refine tk0 6 rfl ?_ ?_ ?_
       rotate_left
       ·intro; go_simp <;> with_reducible rfl
       try go_simp
       refine tk0 7 rfl ?_ ?_ ?_
       rotate_left
       ·intro; go_simp <;> with_reducible rfl
       try go_simp
       refine tk0 8 rfl ?_ ?_ ?_
       rotate_left
       ·intro; go_simp <;> with_reducible rfl
       try go_simp
       refine ry [10] ?_
       refine ar1 rfl fun K hK => ?_
       rw [if_pos (by rfl)]
       refine m_w_old (g := wr.heap.size) (vs := zAx.toList) z1 rfl (stepA b y.1) S2 N2 T2 6 34 rfl rfl rfl rfl ?_
       intro w6 hw6 x6 hb6 ha6 hs6
       have hbw : Below wr.heap.size wr w6 := hb.trans hb6
       refine hK.out _ _ hbw (fun hHeld => ?_)
       clear hK K
       try go_simp
       refine tk0 11 rfl ?_ ?_ ?_
       rotate_left
       ·intro; go_simp <;> with_reducible rfl
       try go_simp
       refine wpAnyT_done (by kernel_rfl) ?_ _
       go_wp2_with fail
       go_meet
       case rel => exact ⟨_, S2, N2, T2, L2, rfl, rfl, x6, (by rw [hs6, ← hw6]; exact hr.aside hO3.1 _), (by rw [hs6, ← hw6]; exact rd_aside (s := L2) hl hO3.2 _), hO2.1, Nat.le_refl _, (by rw [hs6]; exact zh), hbw⟩
     case rest =>
      obtain ⟨gn, S2, N2, T2, L2, rfl, rfl, hx2, hr2, _, ho2, hge, hzn, hbw⟩ := hcut
      obtain ⟨c, hc⟩ : ∃ c, stepA b y.1 = c := ⟨_, rfl⟩
      have GC : Hid (GoodA c) := lh (hc ▸ Q.out.step HY.out.2)
      have HD : Hid ((c.st = 0 ↔ b.st = 0) → outA c - outA b ≤ b.win * 1048576 ∧ outA b - outA c ≤ b.win * 1048576) := lh fun h => by rw [← hc] at h ⊢; exact step_out Q.out.right y.1 h
      have HZ : Hid (b.st = 0 → c.st = 0 → c.p = b.p ∧ c.v = b.v) := lh fun h0 h => by rw [← hc] at h ⊢; exact step_off Q.out.right y.1 h0 h
      have HWN : Hid (1 ≤ b.win ∧ b.win ≤ 16) := lh ⟨Q.out.right.win1, Q.out.right.made.2.2.1⟩
      rw [hc] at hx2 hr2
      clear hc CS
      have X := lh (X.out.below hbw hz)
      have XN := lh hx2
      have HR1 := lh (HR.out.past hbw)
      have HRN := lh hr2
      have HON := lh ho2
      have hzc := Nat.lt_of_lt_of_le hz hbw.size
      have hgn : w.heap.size ≠ gn := by omega
      have HB := lh (HB.out.trans (hbw.mono HB.out.size))
      clear hx2 hr2 ho2 hbw HR HO
      obtain ⟨wd, rfl⟩ : ∃ x, x = wc := ⟨_, rfl⟩
      have CO1 := lh fun (W : World) (hb : Below wd.heap.size wd W) => out_any c GC.out (HRN.out.past hb) (Nat.le_refl _)
      have CO2 := lh fun (W : World) (hb : Below wd.heap.size wd W) => out_any b Q.out (HR1.out.past hb) (Nat.le_refl _)
      go_upto_region 9 with fail
      go_cut [8] from 21 to 84 (fun p wx => p = .int .i64 (IntKind.i64.wrap (outA c - outA b)) ∧ Below wd.heap.size wd wx)
      case first =>
       refine wp_region_T (by kernel_rfl) (fun w' => Below wd.heap.size wd w') [] (Below.refl _ _).drew (fun hHeld => ?_)
       refine tkv 0 rfl (axV c S2 N2 T2) (by exact m_y_ax XN.out hzn 6 rfl rfl rfl) ?_
       try go_simp
       refine tkv 2 rfl (axV b S1 N1 T1) (by exact m_y_ax X.out hzc 2 rfl rfl rfl) ?_
       try go_simp
       refine ry [1] ?_
       refine ar1 rfl fun K hK => ?_
       go_simp
       (go_at_call 19; ((with_reducible refine (CO1.out _ ((Below.refl _ _).drew)).mono ?_); rintro e w5 ⟨rfl, hb5⟩))
       go_wp2_with fail
       have hb1 : Below wd.heap.size wd w5 := ((Below.refl _ _).drew).trans hb5
       refine hK.out _ _ hb1 (fun hHeld => ?_)
       clear hK K
       try go_simp
       refine ry [3] ?_
       refine ar1 rfl fun K hK => ?_
       go_simp
       (go_at_call 19; ((with_reducible refine (CO2.out _ hb1).mono ?_); rintro e w6 ⟨rfl, hb6⟩))
       go_wp2_with fail
       have hb2 : Below wd.heap.size wd w6 := hb1.trans (hb6.mono hb1.size)
       refine hK.out _ _ hb2 (fun hHeld => ?_)
       clear hK K
       try go_simp
       refine tk0 4 rfl ?_ ?_ ?_
       rotate_left
       ·intro; go_simp <;> with_reducible rfl
       try go_simp
       refine tk0 5 rfl ?_ ?_ ?_
       rotate_left
       ·intro; go_simp <;> with_reducible rfl
       try go_simp
       refine wpAnyT_done (by kernel_rfl) ?_ _
       go_wp2_with fail
       go_meet
       case rel => exact ⟨rfl, hb2⟩
      case rest =>
       obtain ⟨rfl, hbx⟩ := hcut
       skip
       have hod := out_room GC.out.right
       have hoe := out_room Q.out.right
       obtain ⟨d, hd⟩ : ∃ d, IntKind.i64.wrap (outA c - outA b) = d := ⟨_, rfl⟩
       have HDD : Hid ((c.st = 0 ↔ b.st = 0) → d ≤ b.win * 1048576 ∧ -d ≤ b.win * 1048576 ∧ -16777216 ≤ d ∧ d ≤ 16777216) := lh fun h => by have h1 := HD.out h; have h2 := HWN.out; rw [IntWalk.i64_in _ (by omega)] at hd; omega
       rw [hd]
       clear hd hod hoe HD CO1 CO2
       have CR := lh fun (W : World) (hb : Below wd.heap.size wd W) => right_any c GC.out.wide (HRN.out.past hb) (Nat.le_refl _)
       rw [rightB_yes GC.out.right] at CR
       have ew : IntKind.i64.wrap (b.win * 1048576) = b.win * 1048576 := IntWalk.i64_in _ (by have := HWN.out; omega)
       have X := lh (X.out.below hbx hzc)
       have XN := lh (XN.out.below hbx hzn)
       have HBX := lh hbx
       have hzc := Nat.lt_of_lt_of_le hzc hbx.size
       have hzn := Nat.lt_of_lt_of_le hzn hbx.size
       clear hbx HR1
       have ⟨c0, _⟩ := k.cell_of X.out (i := 0) rfl
       have ⟨c6, _⟩ := k.cell_of X.out (i := 6) rfl
       by_cases h1 : c.st = 0
       ·by_cases h2 : b.st = 0
        ·obtain ⟨q1, q2, q3, q4⟩ := HDD.out ⟨fun _ => h2, fun _ => h1⟩
         obtain ⟨z1, z2⟩ := HZ.out h2 h1
         have k1 : decide (b.win * 1048576 < d) = false := decide_eq_false (by omega)
         have k2 : decide (b.win * 1048576 < -d) = false := decide_eq_false (by omega)
         have en : IntKind.i64.wrap (-d) = -d := IntWalk.i64_in _ (by omega)
         have K1 := lh h1
         have K2 := lh h2
         have Z1 := lh z1
         have Z2 := lh z2
         clear h1 h2 z1 z2 q1 q2 q3 q4 HDD
         go_wp2_with (first | ((with_reducible refine m_ax_load XN.out 6 ?_ ?_ ?_ ?_); rfl; rfl; rfl; (try simp only [Act.put])) | (go_at_call 14; ((with_reducible refine (CR.out _ HBX.out).mono ?_); rintro e w7 ⟨rfl, hb⟩; clear c0 c6; have X := lh (X.out.below hb hzc); have XN := lh (XN.out.below hb hzn); have HBX := lh (HBX.out.trans (hb.mono HBX.out.size)); have hzc := Nat.lt_of_lt_of_le hzc hb.size; have hzn := Nat.lt_of_lt_of_le hzn hb.size; have ⟨c0, _⟩ := k.cell_of X.out (i := 0) rfl; have ⟨c10, _⟩ := k.cell_of X.out (i := 10) rfl; have ⟨c11, _⟩ := k.cell_of X.out (i := 11) rfl; have ⟨d0, _⟩ := k.cell_of XN.out (i := 0) rfl; have ⟨d10, _⟩ := k.cell_of XN.out (i := 10) rfl; have ⟨d11, _⟩ := k.cell_of XN.out (i := 11) rfl; clear hb; rw [K2.out] at c0; rw [K1.out] at d0; rw [Z1.out] at d10; rw [Z2.out] at d11)) | ((with_reducible refine m_ax_old X.out c S2 N2 T2 2 84 ?_ ?_ ?_ ?_ ?_ ?_); rfl; rfl; rfl; rfl; rfl; intro w9 hw2 x1 hb2 ha2 hs2; have HR := lh (show RdA w9 w9.heap.size c S2 N2 T2 by rw [hs2, ← hw2]; exact (HRN.out.past HBX.out).aside HON.out _); have HB := lh ((HB.out.trans (HBX.out.mono HB.out.size)).trans hb2); rw [← hs2] at hzc; clear hw2; have X := lh x1; clear x1 hb2 ha2 hs2))
         go_roundw
         case rel => exact ⟨j + 1, c, S2, N2, T2, by omega, by go_num, GC.out, X.out, HR.out, HON.out, HB.out, hzc⟩
         case measure => simp [intOf]; omega
        ·have h2b : (b.st == 0) = false := beq_eq_false_iff_ne.2 h2
         have K1 := lh h1
         clear h1 h2 HDD
         go_wp2_with (first | ((with_reducible refine m_ax_load XN.out 6 ?_ ?_ ?_ ?_); rfl; rfl; rfl; (try simp only [Act.put])) | (go_at_call 14; ((with_reducible refine (CR.out _ HBX.out).mono ?_); rintro e w7 ⟨rfl, hb⟩; clear c0 c6; have X := lh (X.out.below hb hzc); have XN := lh (XN.out.below hb hzn); have HBX := lh (HBX.out.trans (hb.mono HBX.out.size)); have hzc := Nat.lt_of_lt_of_le hzc hb.size; have hzn := Nat.lt_of_lt_of_le hzn hb.size; have ⟨c0, _⟩ := k.cell_of X.out (i := 0) rfl; have ⟨c10, _⟩ := k.cell_of X.out (i := 10) rfl; have ⟨c11, _⟩ := k.cell_of X.out (i := 11) rfl; have ⟨d0, _⟩ := k.cell_of XN.out (i := 0) rfl; have ⟨d10, _⟩ := k.cell_of XN.out (i := 10) rfl; have ⟨d11, _⟩ := k.cell_of XN.out (i := 11) rfl; clear hb; rw [K1.out] at d0)) | ((with_reducible refine m_ax_old X.out c S2 N2 T2 2 84 ?_ ?_ ?_ ?_ ?_ ?_); rfl; rfl; rfl; rfl; rfl; intro w9 hw2 x1 hb2 ha2 hs2; have HR := lh (show RdA w9 w9.heap.size c S2 N2 T2 by rw [hs2, ← hw2]; exact (HRN.out.past HBX.out).aside HON.out _); have HB := lh ((HB.out.trans (HBX.out.mono HB.out.size)).trans hb2); rw [← hs2] at hzc; clear hw2; have X := lh x1; clear x1 hb2 ha2 hs2))
         go_roundw
         case rel => exact ⟨j + 1, c, S2, N2, T2, by omega, by go_num, GC.out, X.out, HR.out, HON.out, HB.out, hzc⟩
         case measure => simp [intOf]; omega
       ·have h1b : (c.st == 0) = false := beq_eq_false_iff_ne.2 h1
        by_cases h2 : b.st = 0
        ·have K2 := lh h2
         clear h1 h2 HDD
         go_wp2_with (first | ((with_reducible refine m_ax_load XN.out 6 ?_ ?_ ?_ ?_); rfl; rfl; rfl; (try simp only [Act.put])) | (go_at_call 14; ((with_reducible refine (CR.out _ HBX.out).mono ?_); rintro e w7 ⟨rfl, hb⟩; clear c0 c6; have X := lh (X.out.below hb hzc); have XN := lh (XN.out.below hb hzn); have HBX := lh (HBX.out.trans (hb.mono HBX.out.size)); have hzc := Nat.lt_of_lt_of_le hzc hb.size; have hzn := Nat.lt_of_lt_of_le hzn hb.size; have ⟨c0, _⟩ := k.cell_of X.out (i := 0) rfl; have ⟨c10, _⟩ := k.cell_of X.out (i := 10) rfl; have ⟨c11, _⟩ := k.cell_of X.out (i := 11) rfl; have ⟨d0, _⟩ := k.cell_of XN.out (i := 0) rfl; have ⟨d10, _⟩ := k.cell_of XN.out (i := 10) rfl; have ⟨d11, _⟩ := k.cell_of XN.out (i := 11) rfl; clear hb; rw [K2.out] at c0)) | ((with_reducible refine m_ax_old X.out c S2 N2 T2 2 84 ?_ ?_ ?_ ?_ ?_ ?_); rfl; rfl; rfl; rfl; rfl; intro w9 hw2 x1 hb2 ha2 hs2; have HR := lh (show RdA w9 w9.heap.size c S2 N2 T2 by rw [hs2, ← hw2]; exact (HRN.out.past HBX.out).aside HON.out _); have HB := lh ((HB.out.trans (HBX.out.mono HB.out.size)).trans hb2); rw [← hs2] at hzc; clear hw2; have X := lh x1; clear x1 hb2 ha2 hs2))
         go_roundw
         case rel => exact ⟨j + 1, c, S2, N2, T2, by omega, by go_num, GC.out, X.out, HR.out, HON.out, HB.out, hzc⟩
         case measure => simp [intOf]; omega
        ·have h2b : (b.st == 0) = false := beq_eq_false_iff_ne.2 h2
         obtain ⟨q1, q2, q3, q4⟩ := HDD.out ⟨fun h => absurd h h1, fun h => absurd h h2⟩
         have k1 : decide (b.win * 1048576 < d) = false := decide_eq_false (by omega)
         have k2 : decide (b.win * 1048576 < -d) = false := decide_eq_false (by omega)
         have en : IntKind.i64.wrap (-d) = -d := IntWalk.i64_in _ (by omega)
         clear h1 h2 q1 q2 q3 q4 HDD
         go_wp2_with (first | ((with_reducible refine m_ax_load XN.out 6 ?_ ?_ ?_ ?_); rfl; rfl; rfl; (try simp only [Act.put])) | (go_at_call 14; ((with_reducible refine (CR.out _ HBX.out).mono ?_); rintro e w7 ⟨rfl, hb⟩; clear c0 c6; have X := lh (X.out.below hb hzc); have XN := lh (XN.out.below hb hzn); have HBX := lh (HBX.out.trans (hb.mono HBX.out.size)); have hzc := Nat.lt_of_lt_of_le hzc hb.size; have hzn := Nat.lt_of_lt_of_le hzn hb.size; have ⟨c0, _⟩ := k.cell_of X.out (i := 0) rfl; have ⟨c10, _⟩ := k.cell_of X.out (i := 10) rfl; have ⟨c11, _⟩ := k.cell_of X.out (i := 11) rfl; have ⟨d0, _⟩ := k.cell_of XN.out (i := 0) rfl; have ⟨d10, _⟩ := k.cell_of XN.out (i := 10) rfl; have ⟨d11, _⟩ := k.cell_of XN.out (i := 11) rfl; clear hb; skip)) | ((with_reducible refine m_ax_old X.out c S2 N2 T2 2 84 ?_ ?_ ?_ ?_ ?_ ?_); rfl; rfl; rfl; rfl; rfl; intro w9 hw2 x1 hb2 ha2 hs2; have HR := lh (show RdA w9 w9.heap.size c S2 N2 T2 by rw [hs2, ← hw2]; exact (HRN.out.past HBX.out).aside HON.out _); have HB := lh ((HB.out.trans (HBX.out.mono HB.out.size)).trans hb2); rw [← hs2] at hzc; clear hw2; have X := lh x1; clear x1 hb2 ha2 hs2))
         go_roundw
         case rel => exact ⟨j + 1, c, S2, N2, T2, by omega, by go_num, GC.out, X.out, HR.out, HON.out, HB.out, hzc⟩
         case measure => simp [intOf]; omega
    ·have hj1 : ¬ (j : Int) < (n : Int) := by omega
     go_wp2
     go_ret
     exact ⟨rfl, HB.out⟩
  ·have RB := lh (rightB_no hR)
   clear hR
   go_enter Tryz.func4, Tryz.ntmps4
   go_wp2_with (first | (go_at_call 9; ((with_reducible refine (HK.out _).mono ?_); rintro e v1 ⟨rfl, hb⟩; obtain ⟨x1, hbb, hz⟩ := k.boxes1 hb; have X : Hid (k.Box v1 w.heap.size 0 (axC a S N T)) := lh x1; have HB := lh hbb; have HR := lh (HR.out.past hbb); clear x1 hb hbb)) | ((with_reducible refine m_ax_load X.out 2 ?_ ?_ ?_ ?_); rfl; rfl; rfl; (try simp only [Act.put])) | (go_at_call 21; ((with_reducible refine (short_any a S N T (HL.out.below HB.out) HB.out.size).mono ?_); rintro e v2 ⟨rfl, hb⟩; rw [SB.out]; have X := lh (X.out.below hb hz); have hz := Nat.lt_of_lt_of_le hz hb.size; have HB := lh (HB.out.trans (hb.mono HB.out.size)); have HR := lh (HR.out.past hb); clear hb)) | (go_at_call 14; ((with_reducible refine (right_any a HW.out HR.out (Nat.le_refl _)).mono ?_); rintro e v3 ⟨rfl, hb⟩; rw [RB.out]; have X := lh (X.out.below hb hz); have hz := Nat.lt_of_lt_of_le hz hb.size; have HB := lh (HB.out.trans (hb.mono HB.out.size)); have HR := lh (HR.out.past hb); skip; clear hb)))
   go_ret
   exact ⟨rfl, HB.out⟩
 ·have SB := lh (Bool.not_eq_true _ ▸ hs : shortsB a N.n T.n S.n L = false)
  clear hs
  go_enter Tryz.func4, Tryz.ntmps4
  go_wp2_with (first | (go_at_call 9; ((with_reducible refine (HK.out _).mono ?_); rintro e v1 ⟨rfl, hb⟩; obtain ⟨x1, hbb, hz⟩ := k.boxes1 hb; have X : Hid (k.Box v1 w.heap.size 0 (axC a S N T)) := lh x1; have HB := lh hbb; have HR := lh (HR.out.past hbb); clear x1 hb hbb)) | ((with_reducible refine m_ax_load X.out 2 ?_ ?_ ?_ ?_); rfl; rfl; rfl; (try simp only [Act.put])) | (go_at_call 21; ((with_reducible refine (short_any a S N T (HL.out.below HB.out) HB.out.size).mono ?_); rintro e v2 ⟨rfl, hb⟩; rw [SB.out]; have X := lh (X.out.below hb hz); have hz := Nat.lt_of_lt_of_le hz hb.size; have HB := lh (HB.out.trans (hb.mono HB.out.size)); have HR := lh (HR.out.past hb); clear hb)))
  go_ret
  exact ⟨rfl, HB.out⟩
theorem walk (x0 x1 x2 x3 x4 x5 x6 x7 x8 x9 x10 x11 : Int) (x12a : Option Addr) (x12l x12c : Nat) (x12z : List Int) (x13 : Int) (x14a : Option Addr) (x14l x14c : Nat) (x15a : Option Addr) (x15l x15c : Nat) (x16 : Bool) (x17 x18 x19 : Int) (x20 : Bool) (x21 x22 x23 x24 : Int) (x25 : Bool) (ya : Option Addr) (yl yc : Nat) (w : World) (u0 : (Lit.int .i64 x0).wf = true) (u1 : (Lit.int .i64 x1).wf = true) (u2 : (Lit.int .i64 x2).wf = true) (u3 : (Lit.int .i64 x3).wf = true) (u4 : (Lit.int .i64 x4).wf = true) (u5 : (Lit.int .i64 x5).wf = true) (u6 : (Lit.int .i64 x6).wf = true) (u7 : (Lit.int .i64 x7).wf = true) (u8 : (Lit.int .i64 x8).wf = true) (u9 : (Lit.int .i64 x9).wf = true) (u10 : (Lit.int .i64 x10).wf = true) (u11 : (Lit.int .i64 x11).wf = true) (u12 : IsRow .i64 w x12a x12l x12c x12z) (u13 : (Lit.int .i64 x13).wf = true) (u14 : IsRecs w 7 x14a x14l x14c) (u15 : IsRecs w 7 x15a x15l x15c) (u17 : (Lit.int .i64 x17).wf = true) (u18 : (Lit.int .i64 x18).wf = true) (u19 : (Lit.int .i64 x19).wf = true) (u21 : (Lit.int .i64 x21).wf = true) (u22 : (Lit.int .i64 x22).wf = true) (u23 : (Lit.int .i64 x23).wf = true) (u24 : (Lit.int .i64 x24).wf = true) (v : IsIns w [.bool, .bool, .int .i64, .int .i64, .bool, .bool, .bool, .bool, .bool, .int .i64, .int .i64, .recs 7] ya yl yc) :
  Calls Tryz.prog 4 #[.agg #[.int .i64 x0, .int .i64 x1, .int .i64 x2, .int .i64 x3, .int .i64 x4, .int .i64 x5, .int .i64 x6, .int .i64 x7, .int .i64 x8, .int .i64 x9, .int .i64 x10, .int .i64 x11, .slice x12a x12l x12c, .int .i64 x13, .slice x14a x14l x14c, .slice x15a x15l x15c, .bool x16, .int .i64 x17, .int .i64 x18, .int .i64 x19, .bool x20, .int .i64 x21, .int .i64 x22, .int .i64 x23, .int .i64 x24, .bool x25], .slice ya yl yc] w fun e w' => e = .returned (.bool true) ∧ Below w.heap.size w w' := by
 obtain ⟨a, S, N, T, e, hr, hw⟩ := par_axis x0 x1 x2 x3 x4 x5 x6 x7 x8 x9 x10 x11 x12a x12l x12c x12z x13 x14a x14l x14c x15a x15l x15c x16 x17 x18 x19 x20 x21 x22 x23 x24 x25 w u0 u1 u2 u3 u4 u5 u6 u7 u8 u9 u10 u11 u12 u13 u14 u15 u17 u18 u19 u21 u22 u23 u24
 rw [e]
 obtain ⟨L, hl, hok⟩ := par_ins v
 exact walk_in a S N T ya yl yc L w hr hw hl hok
end Go.Proofs.YtijlccblabadaaaGreat.axisSafe
