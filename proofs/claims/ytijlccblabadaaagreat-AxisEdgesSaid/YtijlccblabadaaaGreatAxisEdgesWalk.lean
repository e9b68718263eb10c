/- The walk of the law AxisEdges: any axis, whatever comes: it returns true, and what was in memory is as it was. -/
import Derived.Test.YtijlccblabadaaaGreatV15
import Derived.Test.YtijlccblabadaaaGreatU13
import Derived.Test.YtijlccblabadaaaGreatU12
import Derived.Test.YtijlccblabadaaaGreatU02
import Derived.Test.YtijlccblabadaaaGreatV04
import Derived.Test.YtijlccblabadaaaGreatX01
namespace Go.Proofs.YtijlccblabadaaaGreat.axisEdges
set_option maxRecDepth 100000
open Go.ChangeShapes Go.WideShapes Go.ChangeAt Go.RowKit Go.Proofs.YtijlccblabadaaaGreat.k Go.Proofs.YtijlccblabadaaaGreat.rr Go.Proofs.YtijlccblabadaaaGreat.ax Go.Proofs.YtijlccblabadaaaGreat
open Go.Proofs.YtijlccblabadaaaGreat.ln (C RdC RdI)
set_option linter.unusedVariables false
open Go.Proofs.YtijlccblabadaaaGreat.ed (nxS nxB)
/-- an edge that was found among the first -/
def eB (s t : Int) : Nat → Bool
 | 0 => t == s
 | e + 1 => eB s t e || (nxB s (e + 1) && (nxS s (e + 1) == t))
theorem eB_more {s t : Int} : ∀ (d e : Nat), eB s t e = true → eB s t (e + d) = true
 | 0, _, h => h
 | d + 1, e, h => by
  show (eB s t (e + d) || _) = true
  rw [eB_more d e h]; rfl
theorem eB_all {s t : Int} (h : EdgeP s t) : eB s t 12 = true := by
 rcases h with h | ⟨e, h1, h2, h3, h4⟩
 ·exact eB_more 12 0 (by show (t == s) = true; rw [h]; simp)
 ·obtain ⟨k, rfl⟩ : ∃ k : Nat, e = (k : Int) + 1 := ⟨(e - 1).toNat, by omega⟩
  have hk : eB s t (k + 1) = true := by
   show (eB s t k || (nxB s ((k : Int) + 1) && (nxS s ((k : Int) + 1) == t))) = true
   rw [h3, h4]; simp
  have := eB_more (11 - k) (k + 1) hk
  rwa [show k + 1 + (11 - k) = 12 by omega] at this
set_option maxRecDepth 100000 in
set_option maxHeartbeats 4000000 in
theorem walk_in (a : Ax) (S N T : Sl) (A : Option Addr) (n cap : Nat) (L : List IS) (w : World) (hr : RdA w w.heap.size a S N T) (hw : WideA a) (hl : RdN w w.heap.size A n cap L) (hok : ∀ x ∈ L, OkI w x) :
  Calls Tryz.prog 5 #[axV a S N T, .slice A n cap] w fun e w' => e = .returned (.bool true) ∧ Below w.heap.size w w' := by
 have HK := lh fun W => awake_any W
 have HR := lh hr
 have HR0 := lh hr
 have HW := lh hw
 have HL := lh hl
 have HOK := lh hok
 have hlen := hl.len_le
 clear hr hw hl hok
 by_cases hs : shortsB a N.n T.n S.n L = true
 ·have SB := lh hs
  obtain ⟨_, hsx⟩ := of_decide_eq_true hs
  clear hs
  have HSX := lh hsx
  clear hsx
  by_cases hR : RightA a
  ·have RB := lh (rightB_yes hR)
   have Q0 := lh (GoodA.mk hR HW.out.keep)
   go_enter Tryz.func5, Tryz.ntmps5
   go_upto_region 3 with (go_at_call 9; ((with_reducible refine (HK.out _).mono ?_); rintro e v1 ⟨rfl, hb⟩; obtain ⟨x1, hbb, hz⟩ := k.boxes1 hb; have X : Hid (k.Box v1 w.heap.size 0 (axC a S N T)) := lh x1; have HB := lh hbb; have HR := lh (HR.out.past hbb); clear x1 hb hbb))
   go_cut [34] from 14 to 34 (fun p wx => p = .bool false ∧ k.Box wx w.heap.size 0 (axC a S N T) ∧ RdA wx wx.heap.size a S N T ∧ Below w.heap.size w wx ∧ w.heap.size < wx.heap.size)
   case first =>
    by_cases h2 : a.st = 2
    ·obtain ⟨⟨c, U, hN⟩, _⟩ := home_line hR h2
     have hn1 : ((N.n : Int) == 0) = false := by rw [beq_eq_false_iff_ne, ← HR.out.N.1, hN]; simp; omega
     have H2 := lh h2
     clear h2 hR hN
     go_wp2_with (first | ((with_reducible refine m_ax_load X.out 2 ?_ ?_ ?_ ?_); rfl; rfl; rfl; (try simp only [Act.put])) | (go_at_call 21; ((with_reducible refine (short_any a S N T (HL.out.below HB.out) HB.out.size).mono ?_); rintro e v2 ⟨rfl, hb⟩; rw [SB.out]; have X := lh (X.out.below hb hz); have hz := Nat.lt_of_lt_of_le hz hb.size; have HB := lh (HB.out.trans (hb.mono HB.out.size)); have HR := lh (HR.out.past hb); clear hb)) | (go_at_call 14; ((with_reducible refine (right_any a HW.out HR.out (Nat.le_refl _)).mono ?_); rintro e v3 ⟨rfl, hb⟩; rw [RB.out]; have X := lh (X.out.below hb hz); have hz := Nat.lt_of_lt_of_le hz hb.size; have HB := lh (HB.out.trans (hb.mono HB.out.size)); have HR := lh (HR.out.past hb); have ⟨c0, _⟩ := k.cell_of X.out (i := 0) rfl; have ⟨c14, _⟩ := k.cell_of X.out (i := 14) rfl; rw [H2.out] at c0; clear hb)))
     go_meet
     case rel => exact ⟨rfl, X.out, HR.out, HB.out, hz⟩
    ·have h2b : (a.st == 2) = false := by rw [beq_eq_false_iff_ne]; exact h2
     clear h2 hR
     go_wp2_with (first | ((with_reducible refine m_ax_load X.out 2 ?_ ?_ ?_ ?_); rfl; rfl; rfl; (try simp only [Act.put])) | (go_at_call 21; ((with_reducible refine (short_any a S N T (HL.out.below HB.out) HB.out.size).mono ?_); rintro e v2 ⟨rfl, hb⟩; rw [SB.out]; have X := lh (X.out.below hb hz); have hz := Nat.lt_of_lt_of_le hz hb.size; have HB := lh (HB.out.trans (hb.mono HB.out.size)); have HR := lh (HR.out.past hb); clear hb)) | (go_at_call 14; ((with_reducible refine (right_any a HW.out HR.out (Nat.le_refl _)).mono ?_); rintro e v3 ⟨rfl, hb⟩; rw [RB.out]; have X := lh (X.out.below hb hz); have hz := Nat.lt_of_lt_of_le hz hb.size; have HB := lh (HB.out.trans (hb.mono HB.out.size)); have HR := lh (HR.out.past hb); have ⟨c0, _⟩ := k.cell_of X.out (i := 0) rfl; have ⟨c14, _⟩ := k.cell_of X.out (i := 14) rfl; clear hb)))
     go_meet
     case rel => exact ⟨rfl, X.out, HR.out, HB.out, hz⟩
   case rest =>
    obtain ⟨rfl, hx, hr, hb, hz⟩ := hcut
    clear X HR HB
    skip
    have X := lh hx
    have HR := lh hr
    have HB := lh hb
    have HO := lh (HR0.out.off (Nat.le_refl _))
    clear hx hr hb HR0 HK SB RB hR
    go_wp2
    go_loopw [5] (fun i wr => ∃ (j : Nat) (b : Ax) (S1 N1 T1 : Sl), j ≤ n ∧ i = .int .i64 j ∧ GoodA b ∧ k.Box wr w.heap.size 0 (axC b S1 N1 T1) ∧ RdA wr wr.heap.size b S1 N1 T1 ∧ OffA w.heap.size S1 N1 T1 ∧ Below w.heap.size w wr ∧ w.heap.size < wr.heap.size) (fun i _ => n - (intOf i).toNat)
    case atStart => exact ⟨0, a, S, N, T, Nat.zero_le _, rfl, Q0.out, X.out, HR.out, HO.out, HB.out, hz⟩
    case round =>
     clear X HR HB HO hz Q0
     obtain ⟨j, b, S1, N1, T1, hj, rfl, hq, hx, hr, ho, hb, hz⟩ := hrel
     have Q := lh hq
     have X := lh hx
     have HR := lh hr
     have HO := lh ho
     have HB := lh hb
     clear hq hx hr ho hb
     by_cases hlt : j < n
     ·obtain ⟨bI, oI, y, rfl, hbI0, hy, hrI⟩ := in_at (HL.out.below HB.out) hlt
      have hbI : bI < wr.heap.size := Nat.lt_trans hbI0 hz
      have HI := lh hrI
      have hy2 := List.mem_of_getElem? hy
      have HY := lh (HOK.out y hy2)
      have HCY := lh (((HY.out.1.below HB.out)).more HB.out.size)
      have HOY : Hid (Off w.heap.size y.2) := lh (off_of HY.out.1 (Nat.le_refl _))
      have HYN : Hid (y.2.n ≤ 20) := lh (of_decide_eq_true (HSX.out y hy2)).2.2.2
      have hj0 : (0 : Int) ≤ (j : Int) := by omega
      have hj1 : (j : Int) < (n : Int) := by omega
      clear hrI hy hy2
      have CS : Hid (∀ (W : World), Below wr.heap.size wr W → Calls Tryz.prog 22 #[axV b S1 N1 T1, inV y.1 y.2] W (GotS (stepA b y.1) (stepR b y.1) S1 N1 T1 y.2 W)) := lh fun W hb => step_any b Q.out y.1 HY.out.2 (HR.out.past hb) (HCY.out.below hb |>.more hb.size) (Nat.le_refl _) HYN.out
      go_upto_region 8 with fail
      go_cut [6, 7] from 35 to 78 (fun p l wx => ∃ (gn : Nat) (S2 N2 T2 L2 : Sl), p = .pointer (some ⟨gn, 0, none⟩) ∧ l = .slice L2.A L2.n L2.c ∧ k.Box wx gn 0 (axC (stepA b y.1) S2 N2 T2) ∧ RdA wx wx.heap.size (stepA b y.1) S2 N2 T2 ∧ RdR wx wx.heap.size L2.A L2.n L2.c (stepR b y.1) ∧ OffA w.heap.size S2 N2 T2 ∧ wr.heap.size ≤ gn ∧ gn < wx.heap.size ∧ Below wr.heap.size wr wx)
      case first =>
       refine wp_region_T (by kernel_rfl) (fun w' => Below wr.heap.size wr w') [] (Below.refl _ _).drew (fun hHeld => ?_)
       refine tkv 0 rfl (axV b S1 N1 T1) (by exact m_y_ax X.out hz 2 rfl rfl rfl) ?_
       try go_simp
       refine tk0 1 rfl ?_ ?_ ?_
       rotate_left
       ·intro; go_simp <;> with_reducible rfl
       try go_simp
       refine tk0 2 rfl ?_ ?_ ?_
       rotate_left
       ·intro; go_simp <;> with_reducible rfl
       try go_simp
       refine tk0 3 rfl ?_ ?_ ?_
       rotate_left
       ·intro; go_simp <;> with_reducible rfl
       try go_simp
       refine tkv 4 rfl (inV y.1 y.2) (by exact m_y_in HI.out hbI 45 rfl rfl rfl) ?_
       try go_simp
       refine ry [5, 9] ?_
       refine AllReadyT.cons rfl (fun K hK => ?_) (AllReadyT.cons rfl (fun K hK => ?_) AllReadyT.nil)
       ·go_simp
        (go_at_call 22; ((with_reducible refine (CS.out _ ((Below.refl _ _).drew)).mono ?_); rintro e w5 ⟨S2, N2, T2, L2, rfl, hr, hl, hb0, ho⟩))
        go_wp2_with fail
        have hb : Below wr.heap.size wr w5 := ((Below.refl _ _).drew).trans hb0
        have hO2 := ho w.heap.size hz HO.out HOY.out
        refine hK.out _ _ hb (fun hHeld => ?_)
        clear hK K
        try go_simp
        refine tk0 6 rfl ?_ ?_ ?_
        rotate_left
        ·intro; go_simp <;> with_reducible rfl
        try go_simp
        refine tk0 7 rfl ?_ ?_ ?_
        rotate_left
        ·intro; go_simp <;> with_reducible rfl
        try go_simp
        refine tk0 8 rfl ?_ ?_ ?_
        rotate_left
        ·intro; go_simp <;> with_reducible rfl
        try go_simp
        refine ry [9] ?_
        refine ar1 rfl fun K hK => ?_
        go_wp2_with fail
        refine hK.out _ _ (hb.alloc hb.size _) (fun hHeld => ?_)
        clear hK K
        try go_simp
        refine ry [10] ?_
        refine ar1 rfl fun K hK => ?_
        rw [if_pos (by rfl)]
        refine m_w_new (w := w5) (stepA b y.1) S2 N2 T2 6 48 rfl rfl rfl rfl ?_
        intro w6 x6 hb6 hz6
        have hbw : Below wr.heap.size wr w6 := hb.trans (hb6.mono hb.size)
        refine hK.out _ _ hbw (fun hHeld => ?_)
        clear hK K
        try go_simp
        refine tk0 11 rfl ?_ ?_ ?_
        rotate_left
        ·intro; go_simp <;> with_reducible rfl
        try go_simp
        refine wpAnyT_done (by kernel_rfl) ?_ _
        go_wp2_with fail
        go_meet
        case rel => exact ⟨_, S2, N2, T2, L2, rfl, rfl, x6, hr.past hb6, (hl.below hb6).more hb6.size, hO2.1, hb.size, hz6, hbw⟩
       ·go_wp2_with fail
        have ha : Below wr.heap.size wr (wr.alloc (.cells zAx 35)).drew := ((Below.refl _ _).alloc (Nat.le_refl _) _).drew
        refine hK.out _ _ ha (fun hHeld => ?_)
        clear hK K
        try go_simp
        refine ry [5] ?_
        refine ar1 rfl fun K hK => ?_
        go_simp
        (go_at_call 22; ((with_reducible refine (CS.out _ ha).mono ?_); rintro e w5 ⟨S2, N2, T2, L2, rfl, hr, hl, hb0, ho⟩))
        go_wp2_with fail
        have hb1 : Below (wr.alloc (.cells zAx 35)).heap.size (wr.alloc (.cells zAx 35)) w5 := ((Below.refl _ _).drew).trans hb0
        obtain ⟨z1, zb, zh⟩ := k.boxes1 (w := wr) (c1 := zAx) (t1 := 35) hb1
        have hb : Below wr.heap.size wr w5 := ha.trans (hb0.mono ha.size)
        have hO2 := ho w.heap.size (Nat.lt_of_lt_of_le hz ha.size) HO.out HOY.out
        have hO3 := (ho wr.heap.size (show wr.heap.size < (wr.alloc (.cells zAx 35)).heap.size by simp) (HR.out.off (Nat.le_refl _)) (off_of HCY.out (Nat.le_refl _)))
        refine hK.out _ _ hb (fun hHeld => ?_)
        clear hK K
        try go_simp
        refine tk0 6 rfl ?_ ?_ ?_
        rotate_left
        ·intro; go_simp <;> with_reducible rfl
        try go_simp
        refine tk0 7 rfl ?_ ?_ ?_
        rotate_left
        ·intro; go_simp <;> with_reducible rfl
        try go_simp
        refine tk0 8 rfl ?_ ?_ ?_
        rotate_left
        ·intro; go_simp <;> with_reducible rfl
        try go_simp
        refine ry [10] ?_
        refine ar1 rfl fun K hK => ?_
        rw [if_pos (by rfl)]
        refine m_w_old (g := wr.heap.size) (vs := zAx.toList) z1 rfl (stepA b y.1) S2 N2 T2 6 48 rfl rfl rfl rfl ?_
        intro w6 hw6 x6 hb6 ha6 hs6
        have hbw : Below wr.heap.size wr w6 := hb.trans hb6
        refine hK.out _ _ hbw (fun hHeld => ?_)
        clear hK K
        try go_simp
        refine tk0 11 rfl ?_ ?_ ?_
        rotate_left
        ·intro; go_simp <;> with_reducible rfl
        try go_simp
        refine wpAnyT_done (by kernel_rfl) ?_ _
        go_wp2_with fail
        go_meet
        case rel => exact ⟨_, S2, N2, T2, L2, rfl, rfl, x6, (by rw [hs6, ← hw6]; exact hr.aside hO3.1 _), (by rw [hs6, ← hw6]; exact rd_aside (s := L2) hl hO3.2 _), hO2.1, Nat.le_refl _, (by rw [hs6]; exact zh), hbw⟩
      case rest =>
       obtain ⟨gn, S2, N2, T2, L2, rfl, rfl, hx2, hr2, _, ho2, hge, hzn, hbw⟩ := hcut
       obtain ⟨c, hc⟩ : ∃ c, stepA b y.1 = c := ⟨_, rfl⟩
       have GC : Hid (GoodA c) := lh (hc ▸ Q.out.step HY.out.2)
       have HE : Hid (eB b.st c.st 12 = true) := lh (eB_all (hc ▸ step_edge Q.out.right y.1))
       rw [hc] at hx2 hr2
       clear hc CS
       have X := lh (X.out.below hbw hz)
       have XN := lh hx2
       have HRN := lh hr2
       have HON := lh ho2
       have hzc := Nat.lt_of_lt_of_le hz hbw.size
       have hgn : w.heap.size ≠ gn := by omega
       have HB := lh (HB.out.trans (hbw.mono HB.out.size))
       clear hx2 hr2 ho2 hbw HR HO
       have ⟨c0, _⟩ := k.cell_of X.out (i := 0) rfl
       have ⟨d0, _⟩ := k.cell_of XN.out (i := 0) rfl
       go_wp2
       go_loopw [8, 9] (fun p i wx => ∃ e : Nat, e ≤ 12 ∧ p = .bool (eB b.st c.st e) ∧ i = .int .i64 ((e : Int) + 1) ∧ Below wc.heap.size wc wx) (fun p i _ => 13 - (intOf i).toNat)
       case atStart => exact ⟨0, by omega, rfl, rfl, Below.refl _ _⟩
       case round =>
        obtain ⟨e, he, rfl, rfl, hbe⟩ := hrel
        have HBE := lh hbe
        have c1 := (hbe.cell (p := ⟨w.heap.size, 0, none⟩) hzc).trans c0
        clear hbe
        by_cases hlt2 : e < 12
        ·have e1 : (e : Int) + 1 ≤ 12 := by omega
         have e2 : (0 : Int) ≤ (e : Int) := by omega
         obtain ⟨p0, hp0⟩ : ∃ p0, eB b.st c.st e = p0 := ⟨_, rfl⟩
         obtain ⟨q0, hq0⟩ : ∃ q0, nxB b.st ((e : Int) + 1) = q0 := ⟨_, rfl⟩
         have CN := lh fun W => ed.next_any b.st ((e : Int) + 1) W
         rw [hq0] at CN
         obtain ⟨t0, ht0⟩ : ∃ t0, nxS b.st ((e : Int) + 1) = t0 := ⟨_, rfl⟩
         rw [ht0] at CN
         have HT := lh ht0
         have HP := lh hp0
         have HQ := lh hq0
         rw [hp0]
         clear ht0 hp0 hq0 c0
         cases p0 <;> cases q0
         ·go_wp2_with (go_at_call 23; ((with_reducible refine (CN.out _).mono ?_); rintro e w7 ⟨rfl, hb⟩; have hb7 : Below wc.heap.size wc w7 := HBE.out.trans (hb.mono HBE.out.size); have HB7 := lh hb7; have d1 := (hb7.cell (p := ⟨gn, 0, none⟩) hzn).trans d0; clear hb hb7 d0))
          go_roundw
          case rel => exact ⟨e + 1, by omega, (by show Value.bool _ = Value.bool (eB b.st c.st e || (nxB b.st ((e : Int) + 1) && (nxS b.st ((e : Int) + 1) == c.st))); rw [HP.out, HQ.out, HT.out]; rfl), by go_num, HB7.out⟩
          case measure => simp [intOf]; omega
         ·go_wp2_with (go_at_call 23; ((with_reducible refine (CN.out _).mono ?_); rintro e w7 ⟨rfl, hb⟩; have hb7 : Below wc.heap.size wc w7 := HBE.out.trans (hb.mono HBE.out.size); have HB7 := lh hb7; have d1 := (hb7.cell (p := ⟨gn, 0, none⟩) hzn).trans d0; clear hb hb7 d0))
          go_roundw
          case rel => exact ⟨e + 1, by omega, (by show Value.bool _ = Value.bool (eB b.st c.st e || (nxB b.st ((e : Int) + 1) && (nxS b.st ((e : Int) + 1) == c.st))); rw [HP.out, HQ.out, HT.out]; rfl), by go_num, HB7.out⟩
          case measure => simp [intOf]; omega
         ·go_wp2_with (go_at_call 23; ((with_reducible refine (CN.out _).mono ?_); rintro e w7 ⟨rfl, hb⟩; have hb7 : Below wc.heap.size wc w7 := HBE.out.trans (hb.mono HBE.out.size); have HB7 := lh hb7; have d1 := (hb7.cell (p := ⟨gn, 0, none⟩) hzn).trans d0; clear hb hb7 d0))
          go_roundw
          case rel => exact ⟨e + 1, by omega, (by show Value.bool _ = Value.bool (eB b.st c.st e || (nxB b.st ((e : Int) + 1) && (nxS b.st ((e : Int) + 1) == c.st))); rw [HP.out, HQ.out, HT.out]; rfl), by go_num, HB7.out⟩
          case measure => simp [intOf]; omega
         ·go_wp2_with (go_at_call 23; ((with_reducible refine (CN.out _).mono ?_); rintro e w7 ⟨rfl, hb⟩; have hb7 : Below wc.heap.size wc w7 := HBE.out.trans (hb.mono HBE.out.size); have HB7 := lh hb7; have d1 := (hb7.cell (p := ⟨gn, 0, none⟩) hzn).trans d0; clear hb hb7 d0))
          go_roundw
          case rel => exact ⟨e + 1, by omega, (by show Value.bool _ = Value.bool (eB b.st c.st e || (nxB b.st ((e : Int) + 1) && (nxS b.st ((e : Int) + 1) == c.st))); rw [HP.out, HQ.out, HT.out]; rfl), by go_num, HB7.out⟩
          case measure => simp [intOf]; omega
        ·have he2 : e = 12 := by omega
         subst he2
         rw [HE.out]
         have X := lh (X.out.below HBE.out hzc)
         have XN := lh (XN.out.below HBE.out hzn)
         have hzx := Nat.lt_of_lt_of_le hzc HBE.out.size
         have HR := lh (HRN.out.past HBE.out)
         have HB := lh (HB.out.trans (HBE.out.mono HB.out.size))
         clear HRN c0 c1 d0 hlt2 he
         go_wp2_with (first | ((with_reducible refine m_ax_load XN.out 6 ?_ ?_ ?_ ?_); rfl; rfl; rfl; (try simp only [Act.put])) | ((with_reducible refine m_ax_old X.out c S2 N2 T2 2 78 ?_ ?_ ?_ ?_ ?_ ?_); rfl; rfl; rfl; rfl; rfl; intro w9 hw2 x1 hb2 ha2 hs2; have HR := lh (show RdA w9 w9.heap.size c S2 N2 T2 by rw [hs2, ← hw2]; exact HR.out.aside HON.out _); have HB := lh (HB.out.trans hb2); rw [← hs2] at hzx; clear hw2; have X := lh x1; clear x1 hb2 ha2 hs2))
         go_roundw
         case rel => exact ⟨j + 1, c, S2, N2, T2, by omega, by go_num, GC.out, X.out, HR.out, HON.out, HB.out, hzx⟩
         case measure => simp [intOf]; omega
     ·have hj1 : ¬ (j : Int) < (n : Int) := by omega
      go_wp2
      go_ret
      exact ⟨rfl, HB.out⟩
  ·have RB := lh (rightB_no hR)
   clear hR
   go_enter Tryz.func5, Tryz.ntmps5
   go_wp2_with (first | (go_at_call 9; ((with_reducible refine (HK.out _).mono ?_); rintro e v1 ⟨rfl, hb⟩; obtain ⟨x1, hbb, hz⟩ := k.boxes1 hb; have X : Hid (k.Box v1 w.heap.size 0 (axC a S N T)) := lh x1; have HB := lh hbb; have HR := lh (HR.out.past hbb); clear x1 hb hbb)) | ((with_reducible refine m_ax_load X.out 2 ?_ ?_ ?_ ?_); rfl; rfl; rfl; (try simp only [Act.put])) | (go_at_call 21; ((with_reducible refine (short_any a S N T (HL.out.below HB.out) HB.out.size).mono ?_); rintro e v2 ⟨rfl, hb⟩; rw [SB.out]; have X := lh (X.out.below hb hz); have hz := Nat.lt_of_lt_of_le hz hb.size; have HB := lh (HB.out.trans (hb.mono HB.out.size)); have HR := lh (HR.out.past hb); clear hb)) | (go_at_call 14; ((with_reducible refine (right_any a HW.out HR.out (Nat.le_refl _)).mono ?_); rintro e v3 ⟨rfl, hb⟩; rw [RB.out]; have X := lh (X.out.below hb hz); have hz := Nat.lt_of_lt_of_le hz hb.size; have HB := lh (HB.out.trans (hb.mono HB.out.size)); have HR := lh (HR.out.past hb); skip; clear hb)))
   go_ret
   exact ⟨rfl, HB.out⟩
 ·have SB := lh (Bool.not_eq_true _ ▸ hs : shortsB a N.n T.n S.n L = false)
  clear hs
  go_enter Tryz.func5, Tryz.ntmps5
  go_wp2_with (first | (go_at_call 9; ((with_reducible refine (HK.out _).mono ?_); rintro e v1 ⟨rfl, hb⟩; obtain ⟨x1, hbb, hz⟩ := k.boxes1 hb; have X : Hid (k.Box v1 w.heap.size 0 (axC a S N T)) := lh x1; have HB := lh hbb; have HR := lh (HR.out.past hbb); clear x1 hb hbb)) | ((with_reducible refine m_ax_load X.out 2 ?_ ?_ ?_ ?_); rfl; rfl; rfl; (try simp only [Act.put])) | (go_at_call 21; ((with_reducible refine (short_any a S N T (HL.out.below HB.out) HB.out.size).mono ?_); rintro e v2 ⟨rfl, hb⟩; rw [SB.out]; have X := lh (X.out.below hb hz); have hz := Nat.lt_of_lt_of_le hz hb.size; have HB := lh (HB.out.trans (hb.mono HB.out.size)); have HR := lh (HR.out.past hb); clear hb)))
  go_ret
  exact ⟨rfl, HB.out⟩
theorem walk (x0 x1 x2 x3 x4 x5 x6 x7 x8 x9 x10 x11 : Int) (x12a : Option Addr) (x12l x12c : Nat) (x12z : List Int) (x13 : Int) (x14a : Option Addr) (x14l x14c : Nat) (x15a : Option Addr) (x15l x15c : Nat) (x16 : Bool) (x17 x18 x19 : Int) (x20 : Bool) (x21 x22 x23 x24 : Int) (x25 : Bool) (ya : Option Addr) (yl yc : Nat) (w : World) (u0 : (Lit.int .i64 x0).wf = true) (u1 : (Lit.int .i64 x1).wf = true) (u2 : (Lit.int .i64 x2).wf = true) (u3 : (Lit.int .i64 x3).wf = true) (u4 : (Lit.int .i64 x4).wf = true) (u5 : (Lit.int .i64 x5).wf = true) (u6 : (Lit.int .i64 x6).wf = true) (u7 : (Lit.int .i64 x7).wf = true) (u8 : (Lit.int .i64 x8).wf = true) (u9 : (Lit.int .i64 x9).wf = true) (u10 : (Lit.int .i64 x10).wf = true) (u11 : (Lit.int .i64 x11).wf = true) (u12 : IsRow .i64 w x12a x12l x12c x12z) (u13 : (Lit.int .i64 x13).wf = true) (u14 : IsRecs w 7 x14a x14l x14c) (u15 : IsRecs w 7 x15a x15l x15c) (u17 : (Lit.int .i64 x17).wf = true) (u18 : (Lit.int .i64 x18).wf = true) (u19 : (Lit.int .i64 x19).wf = true) (u21 : (Lit.int .i64 x21).wf = true) (u22 : (Lit.int .i64 x22).wf = true) (u23 : (Lit.int .i64 x23).wf = true) (u24 : (Lit.int .i64 x24).wf = true) (v : IsIns w [.bool, .bool, .int .i64, .int .i64, .bool, .bool, .bool, .bool, .bool, .int .i64, .int .i64, .recs 7] ya yl yc) :
  Calls Tryz.prog 5 #[.agg #[.int .i64 x0, .int .i64 x1, .int .i64 x2, .int .i64 x3, .int .i64 x4, .int .i64 x5, .int .i64 x6, .int .i64 x7, .int .i64 x8, .int .i64 x9, .int .i64 x10, .int .i64 x11, .slice x12a x12l x12c, .int .i64 x13, .slice x14a x14l x14c, .slice x15a x15l x15c, .bool x16, .int .i64 x17, .int .i64 x18, .int .i64 x19, .bool x20, .int .i64 x21, .int .i64 x22, .int .i64 x23, .int .i64 x24, .bool x25], .slice ya yl yc] w fun e w' => e = .returned (.bool true) ∧ Below w.heap.size w w' := by
 obtain ⟨a, S, N, T, e, hr, hw⟩ := par_axis x0 x1 x2 x3 x4 x5 x6 x7 x8 x9 x10 x11 x12a x12l x12c x12z x13 x14a x14l x14c x15a x15l x15c x16 x17 x18 x19 x20 x21 x22 x23 x24 x25 w u0 u1 u2 u3 u4 u5 u6 u7 u8 u9 u10 u11 u12 u13 u14 u15 u17 u18 u19 u21 u22 u23 u24
 rw [e]
 obtain ⟨L, hl, hok⟩ := par_ins v
 exact walk_in a S N T ya yl yc L w hr hw hl hok
end Go.Proofs.YtijlccblabadaaaGreat.axisEdges
