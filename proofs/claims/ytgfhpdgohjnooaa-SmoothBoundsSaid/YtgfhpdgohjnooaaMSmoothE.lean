/- What smooth's Shift answers: a window in memory of its own; what was in memory is as it was. The window has at most 100 places. -/
import Derived.Test.YtgfhpdgohjnooaaMSmoothC
import Derived.Test.YtgfhpdgohjnooaaMCopy
import Derived.Test.YtgfhpdgohjnooaaMSmoothD
namespace Go.Proofs.Ytgfhpdgohjnooaa.mm
open Go.ChangeShapes Go.WideShapes Go.ChangeAt Go.RowKit Go.Proofs.Ytgfhpdgohjnooaa.k
set_option linter.unusedVariables false


theorem shiftW_yes {L : List Int} {d : Int} (h : RightW L) (hd : ∀ x ∈ L, inP (x + d)) : shiftW L d = L.map (· + d) := if_pos ⟨h, hd⟩
theorem shiftW_no {L : List Int} {d : Int} (h : ¬ (RightW L ∧ ∀ x ∈ L, inP (x + d))) : shiftW L d = L := if_neg h

set_option maxHeartbeats 4000000 in
theorem shift_from (L : List Int) (d : Int) (hl : L.length ≤ 100) {A : Option Addr} {len cap B : Nat} {w : World} (h : Win w B A len cap L) (hB : B ≤ w.heap.size) :
    Calls Try.prog 16 #[.agg #[.slice A len cap], .int .i64 d] w (GotF w A (shiftW L d)) := by
  obtain ⟨w1, e1, V1, b1, z1⟩ := boxed w (.slice A len cap)
  obtain ⟨w2, e2, V2, b2, z2⟩ := boxed w1 (.slice none 0 0)
  have X1 := Lib.hid (V1.under b2)
  rw [z1] at V2
  have X2 := Lib.hid V2
  have HB := Lib.hid (b1.trans (b2.mono b1.size))
  have HL := Lib.hid h.1
  have HW := Lib.hid (((h.more hB).below HB.out).more HB.out.size)
  have HWw := Lib.hid (h.more hB)
  have C := Lib.hid fun (W : World) (h : Win W W.heap.size A len cap L) => again_any L hl h (Nat.le_refl _)
  have R := Lib.hid fun (W : World) (h : Win W W.heap.size A len cap L) => isright_any L h (Nat.le_refl _)
  have hd : w.heap.size + 1 < w2.heap.size := by omega
  have e2' : (w.alloc (.cells #[.slice A len cap] 24)).alloc (.cells #[.slice none 0 0] 24) = w2 := by rw [e1, e2]
  clear h V1 V2 b1 b2 e1 e2
  by_cases hr : RightW L
  · have RT := Lib.hid (show _ from (rightB_yes hr) ▸ R.out)
    clear R
    by_cases hm : ∀ x ∈ L, inP (x + d)
    · have M := Lib.hid fun (W : World) (h : Win W W.heap.size A len cap L) => (show mayB L d = true from decide_eq_true hm) ▸ mayshift_any L d hr h (Nat.le_refl _)
      have HX : Hid (shiftW L d = L.map (· + d)) := Lib.hid (shiftW_yes hr hm)
      have hl0 : 0 < len := by rw [← HL.out]; exact hr.1
      have HM := Lib.hid hm
      have HR := Lib.hid hr
      have HLe : Hid ((L.map (· + d)).length = len) := Lib.hid (by rw [List.length_map]; exact HL.out)
      have h16 : len ≤ 16 := by rw [← HL.out]; exact hr.2.1
      clear hm hr
      have c1 := X1.out.var.cell
      go_enter Try.func16, Try.ntmps16
      go_wp2_with (go_at_call 22; fail)
      refine (C.out _ HW.out).mono ?_
      rintro e w3 ⟨A3, l3, rfl, hN, hb⟩
      clear c1
      obtain ⟨w4, e4, V4, b4, z4⟩ := boxed w3 (.slice none 0 0)
      obtain ⟨w5, e5, V5, h5, hN5⟩ := put_result V4 (.slice A3 len l3)
      have z3 : w2.heap.size ≤ w3.heap.size := hb.size
      have z5 : w5.heap.size = w4.heap.size := by rw [← e5]; simp
      have b34 := b4.trans (h5 _ (Nat.le_refl _))
      have X15 := Lib.hid ((X1.out.under hb).under b34)
      have X25 := Lib.hid ((X2.out.under hb).under b34)
      have X5 := Lib.hid V5
      have HB5 := Lib.hid ((HB.out.trans (hb.mono HB.out.size)).trans (b34.mono (HB.out.trans (hb.mono HB.out.size)).size))
      have HN5 := Lib.hid (hN5 ((hN.from HB.out.size).under b4))
      have HW5 := Lib.hid ((HWw.out.below HB5.out).more HB5.out.size)
      have hc4 := V4.var.cell
      have hf4 := V4.var.frozen 0
      have hx1 := X15.out.var.cell
      have hd4 : w.heap.size + 1 < w3.heap.size := by omega
      clear hb hN hN5 h5 b34 b4 V4 V5
      go_wp2_with (go_at_call 13; fail)
      refine (RT.out _ HW5.out).mono ?_
      rintro e w6 ⟨rfl, hb⟩
      have X16 := Lib.hid (X15.out.under hb)
      have X26 := Lib.hid (X25.out.under hb)
      have X6 := Lib.hid (X5.out.under hb)
      have HB6 := Lib.hid (HB5.out.trans (hb.mono HB5.out.size))
      have HN6 := Lib.hid (HN5.out.under hb)
      have z6 : w5.heap.size ≤ w6.heap.size := hb.size
      clear hb
      have HW6 := Lib.hid ((HWw.out.below HB6.out).more HB6.out.size)
      have hx6 := X16.out.var.cell
      clear hx1
      go_wp2_with (go_at_call 23; fail)
      refine (M.out _ HW6.out).mono ?_
      rintro e w7 ⟨rfl, hb⟩
      clear hx6
      have X27 := Lib.hid (X26.out.under hb)
      have X7 := Lib.hid (X6.out.under hb)
      have HB7 := Lib.hid (HB6.out.trans (hb.mono HB6.out.size))
      have HN7 := Lib.hid (HN6.out.under hb)
      clear hb
      obtain ⟨gr, rfl, hgr, hr7⟩ := HN7.out.2.2 hl0
      have n2 := hr7.ne X27.out
      have n6 := hr7.ne X7.out
      have HR7 : Hid (RowF w7 gr len (mf true d L 0)) := Lib.hid (hr7.cong (fun i hi => (mf_start true d L i).symm))
      have HLC := Lib.hid (HN7.out.1.2.1)
      have HCM := Lib.hid (HN7.out.1.2.2.1)
      have hc7 := X7.out.var.cell
      clear hr7
      go_wp2
      clear hc7
      go_loopw [19] (fun i wr => ∃ j : Nat, j ≤ len ∧ i = .int .i64 j ∧ RowF wr gr len (mf true d L j) ∧ VarS wr (w.heap.size + 1) (.slice none 0 0) ∧ VarS wr w3.heap.size (.slice (some ⟨gr, 0, none⟩) len l3) ∧ Below w.heap.size w wr) (fun i _ => len - (intOf i).toNat)
      case atStart => exact ⟨0, Nat.zero_le _, rfl, HR7.out, X27.out, X7.out, HB7.out⟩
      case round =>
        obtain ⟨j, hj, rfl, hR, hX2, hX5, hBw⟩ := hrel
        have RR := Lib.hid hR
        have Y2 := Lib.hid hX2
        have Y5 := Lib.hid hX5
        have YB := Lib.hid hBw
        clear hR hX2 hX5 hBw
        by_cases hlt : j < len
        · have hj0 : (0 : Int) ≤ (j : Int) := by omega
          have hj1 : (j : Int) < (len : Int) := by omega
          have hcr := RR.out.cell hlt
          have hfr := RR.out.frozen j
          rw [mf_at] at hcr
          have hin := HR.out.at (i := j) (by rw [HL.out]; exact hlt)
          have hin2 := list_at.1 HM.out j (by rw [HL.out]; exact hlt)
          have hset := RR.out.set hlt (L.getD j 0 + d)
          have hgo : ∀ i, i < len → (if i = j then L.getD j 0 + d else mf true d L j i) = mf true d L (j + 1) i := fun i _ => mf_step i
          have YR := Lib.hid (hset.cong hgo)
          clear hset hgo
          generalize L.getD j 0 = x at *
          obtain ⟨i1, i2⟩ := hin
          obtain ⟨i3, i4⟩ := hin2
          have hwr : IntKind.i64.wrap (x + d) = x + d := by rw [IntKind.wrap_i64]; omega
          have hc5 := Y5.out.var.cell
          go_wp2
          go_roundw
          case rel => exact ⟨j + 1, by omega, by go_num, YR.out, Y2.out.aside (p := ⟨gr, j, none⟩) n2 _, Y5.out.aside (p := ⟨gr, j, none⟩) n6 _, YB.out.setCell (p := ⟨gr, j, none⟩) hgr _⟩
          case measure => simp [intOf]; omega
        · have hjl : len = j := by omega
          subst hjl
          have HNe : Hid (NewRow w wr (some ⟨gr, 0, none⟩) len l3 (shiftW L d)) := Lib.hid (new_row hgr HLC.out HCM.out (RR.out.cong (fun i hi => by have := mf_end (L := L) (d := d) (i := i) (by rw [HL.out]; exact hi); rwa [HL.out] at this)) HLe.out HX.out.symm)
          obtain ⟨wz, ez, VZ, hz, hNz⟩ := put_result Y2.out (.slice (some ⟨gr, 0, none⟩) len l3)
          have hcz := Y2.out.var.cell
          have hfz := Y2.out.var.frozen 0
          have hcn := Y5.out.var.cell
          have HBz := Lib.hid (YB.out.trans (hz _ (by omega)))
          have HNz := Lib.hid (hNz HNe.out)
          clear hz hNz
          go_wp2
          all_goals refine bodyPost_ret (k.results_cell rfl rfl (run_loadVar_mid wz (w.heap.size + 1) 0 24 _ _ VZ.range rfl rfl (by kernel_rfl))) rfl ?_
          all_goals exact ⟨_, len, l3, rfl, ⟨HNz.out.1, HNz.out.got A⟩, HBz.out⟩
    · have M := Lib.hid fun (W : World) (h : Win W W.heap.size A len cap L) => (show mayB L d = false from decide_eq_false hm) ▸ mayshift_any L d hr h (Nat.le_refl _)
      have HX : Hid (shiftW L d = L) := Lib.hid (shiftW_no fun h => hm h.2)
      clear hm hr
      have c1 := X1.out.var.cell
      go_enter Try.func16, Try.ntmps16
      go_wp2_with (go_at_call 22; fail)
      refine (C.out _ HW.out).mono ?_
      rintro e w3 ⟨A3, l3, rfl, hN, hb⟩
      clear c1
      obtain ⟨w4, e4, V4, b4, z4⟩ := boxed w3 (.slice none 0 0)
      obtain ⟨w5, e5, V5, h5, hN5⟩ := put_result V4 (.slice A3 len l3)
      have z3 : w2.heap.size ≤ w3.heap.size := hb.size
      have z5 : w5.heap.size = w4.heap.size := by rw [← e5]; simp
      have b34 := b4.trans (h5 _ (Nat.le_refl _))
      have X15 := Lib.hid ((X1.out.under hb).under b34)
      have X25 := Lib.hid ((X2.out.under hb).under b34)
      have X5 := Lib.hid V5
      have HB5 := Lib.hid ((HB.out.trans (hb.mono HB.out.size)).trans (b34.mono (HB.out.trans (hb.mono HB.out.size)).size))
      have HN5 := Lib.hid (hN5 ((hN.from HB.out.size).under b4))
      have HW5 := Lib.hid ((HWw.out.below HB5.out).more HB5.out.size)
      have hc4 := V4.var.cell
      have hf4 := V4.var.frozen 0
      have hx1 := X15.out.var.cell
      have hd4 : w.heap.size + 1 < w3.heap.size := by omega
      clear hb hN hN5 h5 b34 b4 V4 V5
      go_wp2_with (go_at_call 13; fail)
      refine (RT.out _ HW5.out).mono ?_
      rintro e w6 ⟨rfl, hb⟩
      have X16 := Lib.hid (X15.out.under hb)
      have X26 := Lib.hid (X25.out.under hb)
      have X6 := Lib.hid (X5.out.under hb)
      have HB6 := Lib.hid (HB5.out.trans (hb.mono HB5.out.size))
      have HN6 := Lib.hid (HN5.out.under hb)
      have z6 : w5.heap.size ≤ w6.heap.size := hb.size
      clear hb
      have HW6 := Lib.hid ((HWw.out.below HB6.out).more HB6.out.size)
      have hx6 := X16.out.var.cell
      clear hx1
      go_wp2_with (go_at_call 23; fail)
      refine (M.out _ HW6.out).mono ?_
      rintro e w7 ⟨rfl, hb⟩
      clear hx6
      have X27 := Lib.hid (X26.out.under hb)
      have X7 := Lib.hid (X6.out.under hb)
      have HB7 := Lib.hid (HB6.out.trans (hb.mono HB6.out.size))
      have HN7 := Lib.hid (HN6.out.under hb)
      clear hb
      have HNe : Hid (NewRow w w7 A3 len l3 (shiftW L d)) := Lib.hid (by rw [HX.out]; exact HN7.out)
      obtain ⟨wz, ez, VZ, hz, hNz⟩ := put_result X27.out (.slice A3 len l3)
      have hcz := X27.out.var.cell
      have hfz := X27.out.var.frozen 0
      have hcn := X7.out.var.cell
      have HBz := Lib.hid (HB7.out.trans (hz _ (by omega)))
      have HNz := Lib.hid (hNz HNe.out)
      clear hz hNz
      go_wp2
      all_goals refine bodyPost_ret (k.results_cell rfl rfl (run_loadVar_mid wz (w.heap.size + 1) 0 24 _ _ VZ.range rfl rfl (by kernel_rfl))) rfl ?_
      all_goals exact ⟨_, len, l3, rfl, ⟨HNz.out.1, HNz.out.got A⟩, HBz.out⟩
  · have RT := Lib.hid (show _ from (rightB_no hr) ▸ R.out)
    have HX : Hid (shiftW L d = L) := Lib.hid (shiftW_no fun h => hr h.1)
    clear R hr
    have c1 := X1.out.var.cell
    go_enter Try.func16, Try.ntmps16
    go_wp2_with (go_at_call 22; fail)
    refine (C.out _ HW.out).mono ?_
    rintro e w3 ⟨A3, l3, rfl, hN, hb⟩
    clear c1
    obtain ⟨w4, e4, V4, b4, z4⟩ := boxed w3 (.slice none 0 0)
    obtain ⟨w5, e5, V5, h5, hN5⟩ := put_result V4 (.slice A3 len l3)
    have z3 : w2.heap.size ≤ w3.heap.size := hb.size
    have z5 : w5.heap.size = w4.heap.size := by rw [← e5]; simp
    have b34 := b4.trans (h5 _ (Nat.le_refl _))
    have X15 := Lib.hid ((X1.out.under hb).under b34)
    have X25 := Lib.hid ((X2.out.under hb).under b34)
    have X5 := Lib.hid V5
    have HB5 := Lib.hid ((HB.out.trans (hb.mono HB.out.size)).trans (b34.mono (HB.out.trans (hb.mono HB.out.size)).size))
    have HN5 := Lib.hid (hN5 ((hN.from HB.out.size).under b4))
    have HW5 := Lib.hid ((HWw.out.below HB5.out).more HB5.out.size)
    have hc4 := V4.var.cell
    have hf4 := V4.var.frozen 0
    have hx1 := X15.out.var.cell
    have hd4 : w.heap.size + 1 < w3.heap.size := by omega
    clear hb hN hN5 h5 b34 b4 V4 V5
    go_wp2_with (go_at_call 13; fail)
    refine (RT.out _ HW5.out).mono ?_
    rintro e w6 ⟨rfl, hb⟩
    have X16 := Lib.hid (X15.out.under hb)
    have X26 := Lib.hid (X25.out.under hb)
    have X6 := Lib.hid (X5.out.under hb)
    have HB6 := Lib.hid (HB5.out.trans (hb.mono HB5.out.size))
    have HN6 := Lib.hid (HN5.out.under hb)
    have z6 : w5.heap.size ≤ w6.heap.size := hb.size
    clear hb
    have HNe : Hid (NewRow w w6 A3 len l3 (shiftW L d)) := Lib.hid (by rw [HX.out]; exact HN6.out)
    obtain ⟨wz, ez, VZ, hz, hNz⟩ := put_result X26.out (.slice A3 len l3)
    have hcz := X26.out.var.cell
    have hfz := X26.out.var.frozen 0
    have hcn := X6.out.var.cell
    have HBz := Lib.hid (HB6.out.trans (hz _ (by omega)))
    have HNz := Lib.hid (hNz HNe.out)
    clear hz hNz
    go_wp2
    all_goals refine bodyPost_ret (k.results_cell rfl rfl (run_loadVar_mid wz (w.heap.size + 1) 0 24 _ _ VZ.range rfl rfl (by kernel_rfl))) rfl ?_
    all_goals exact ⟨_, len, l3, rfl, ⟨HNz.out.1, HNz.out.got A⟩, HBz.out⟩
end Go.Proofs.Ytgfhpdgohjnooaa.mm
