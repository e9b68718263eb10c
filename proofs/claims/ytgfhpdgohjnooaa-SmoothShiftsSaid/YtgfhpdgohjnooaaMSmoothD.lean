/- What smooth's Push answers: a window in memory of its own; what was in memory is as it was. The window has at most 100 places. -/
import Derived.Test.YtgfhpdgohjnooaaMSmoothC
import Derived.Test.YtgfhpdgohjnooaaMCopy
namespace Go.Proofs.Ytgfhpdgohjnooaa.mm
open Go.ChangeShapes Go.WideShapes Go.ChangeAt Go.RowKit Go.Proofs.Ytgfhpdgohjnooaa.k
set_option linter.unusedVariables false


theorem push_at {L : List Int} {p : Int} {i len : Nat} (hi : i < L.length) (hl : L.length = len) : (p :: L.take (L.length - 1)).getD i 0 = if 1 ≤ i ∧ i < 1 + (len - 1) then L.getD (i - 1) 0 else if i = 0 then p else L.getD i 0 := by
  subst hl
  cases i with
  | zero => simp
  | succ j =>
    rw [if_pos ⟨by omega, by omega⟩, List.getD_eq_getElem?_getD, List.getElem?_cons_succ, List.getElem?_take, if_pos (by omega), List.getD_eq_getElem?_getD]
    rfl
theorem new_row {w w' : World} {gr len cap : Nat} {L K : List Int} (hg : w.heap.size ≤ gr) (hc : len ≤ cap) (hm : cap ≤ maxLen) (hr : RowF w' gr len (fun i => L.getD i 0)) (hl : L.length = len) (e : L = K) : NewRow w w' (some ⟨gr, 0, none⟩) len cap K := by
  subst e
  exact ⟨hr.win hl hc hm (fun _ _ => rfl), (fun b off s e => by injection e with e; injection e with e; exact .inr (by omega)), fun _ => ⟨gr, rfl, hg, hr⟩⟩

set_option maxHeartbeats 4000000 in
theorem push_from (L : List Int) (p : Int) (hl : L.length ≤ 100) {A : Option Addr} {len cap B : Nat} {w : World} (h : Win w B A len cap L) (hB : B ≤ w.heap.size) :
    Calls Try.prog 15 #[.agg #[.slice A len cap], .int .i64 p] w (GotF w A (pushW L p)) := by
  obtain ⟨w1, e1, V1, b1, z1⟩ := boxed w (.slice A len cap)
  obtain ⟨w2, e2, V2, b2, z2⟩ := boxed w1 (.slice none 0 0)
  have X1 := Lib.hid (V1.under b2)
  rw [z1] at V2
  have X2 := Lib.hid V2
  have HB := Lib.hid (b1.trans (b2.mono b1.size))
  have HL := Lib.hid h.1
  have HW := Lib.hid (((h.more hB).below HB.out).more HB.out.size)
  have HWw := Lib.hid (h.more hB)
  have C := Lib.hid fun (W : World) (h : Win W W.heap.size A len cap L) => again_any L hl h (Nat.le_refl _)
  have R := Lib.hid fun (W : World) (h : Win W W.heap.size A len cap L) => isright_any L h (Nat.le_refl _)
  have hd : w.heap.size + 1 < w2.heap.size := by omega
  have e2' : (w.alloc (.cells #[.slice A len cap] 24)).alloc (.cells #[.slice none 0 0] 24) = w2 := by rw [e1, e2]
  clear h V1 V2 b1 b2 e1 e2
  by_cases hr : RightW L
  · have RT := Lib.hid (show _ from (rightB_yes hr) ▸ R.out)
    clear R
    by_cases hp : inP p
    · have HX : Hid (p :: L.take (L.length - 1) = pushW L p) := Lib.hid (pushW_yes hr hp).symm
      have hl0 : 0 < len := by rw [← HL.out]; exact hr.1
      have HLe : Hid ((p :: L.take (L.length - 1)).length = len) := Lib.hid (by rw [push_len hr]; exact HL.out)
      have P := Lib.hid fun W => iplace_yes hp W
      clear hp
      have c1 := X1.out.var.cell
      go_enter Try.func15, Try.ntmps15
      go_wp2_with (go_at_call 22; fail)
      refine (C.out _ HW.out).mono ?_
      rintro e w3 ⟨A3, l3, rfl, hN, hb⟩
      clear c1
      obtain ⟨w4, e4, V4, b4, z4⟩ := boxed w3 (.slice none 0 0)
      obtain ⟨w5, e5, V5, h5, hN5⟩ := put_result V4 (.slice A3 len l3)
      have z3 : w2.heap.size ≤ w3.heap.size := hb.size
      have z5 : w5.heap.size = w4.heap.size := by rw [← e5]; simp
      have b34 := b4.trans (h5 _ (Nat.le_refl _))
      have X15 := Lib.hid ((X1.out.under hb).under b34)
      have X25 := Lib.hid ((X2.out.under hb).under b34)
      have X5 := Lib.hid V5
      have HB5 := Lib.hid ((HB.out.trans (hb.mono HB.out.size)).trans (b34.mono (HB.out.trans (hb.mono HB.out.size)).size))
      have HN5 := Lib.hid (hN5 ((hN.from HB.out.size).under b4))
      have HW5 := Lib.hid ((HWw.out.below HB5.out).more HB5.out.size)
      have hc4 := V4.var.cell
      have hf4 := V4.var.frozen 0
      have hx1 := X15.out.var.cell
      have hd4 : w.heap.size + 1 < w3.heap.size := by omega
      clear hb hN hN5 h5 b34 b4 V4 V5
      go_wp2_with (go_at_call 13; fail)
      refine (RT.out _ HW5.out).mono ?_
      rintro e w6 ⟨rfl, hb⟩
      have X16 := Lib.hid (X15.out.under hb)
      have X26 := Lib.hid (X25.out.under hb)
      have X6 := Lib.hid (X5.out.under hb)
      have HB6 := Lib.hid (HB5.out.trans (hb.mono HB5.out.size))
      have HN6 := Lib.hid (HN5.out.under hb)
      have z6 : w5.heap.size ≤ w6.heap.size := hb.size
      clear hb
      go_wp2_with (go_at_call 18; fail)
      refine (P.out _).mono ?_
      rintro e w6' ⟨rfl, rfl⟩
      obtain ⟨gr, rfl, hgr, hr6⟩ := HN6.out.2.2 hl0
      have n1 := hr6.ne X16.out
      have n2 := hr6.ne X26.out
      have n6 := hr6.ne X6.out
      obtain ⟨w7, e7⟩ : ∃ W, w6.setCell ⟨gr, 0, none⟩ (.int .i64 p) = W := ⟨_, rfl⟩
      have R7 := Lib.hid (e7 ▸ hr6.set hl0 p)
      have X17 := Lib.hid (e7 ▸ X16.out.aside (p := ⟨gr, 0, none⟩) n1 _)
      have X27 := Lib.hid (e7 ▸ X26.out.aside (p := ⟨gr, 0, none⟩) n2 _)
      have X7 := Lib.hid (e7 ▸ X6.out.aside (p := ⟨gr, 0, none⟩) n6 _)
      have HB7 := Lib.hid (e7 ▸ HB6.out.setCell (p := ⟨gr, 0, none⟩) hgr _)
      have z7 : w7.heap.size = w6.heap.size := by rw [← e7]; simp
      have hcr := hr6.cell hl0
      have hfr := hr6.frozen 0
      have hc6 := X6.out.var.cell
      have hc7 := X7.out.var.cell
      have hc17 := X17.out.var.cell
      have HLC := Lib.hid (HN6.out.1.2.1)
      have HCM := Lib.hid (HN6.out.1.2.2.1)
      have hl1 : (1 : Int) ≤ (len : Int) := by omega
      have hlc : (len : Int) ≤ (l3 : Int) := by have := HLC.out; omega
      clear hr6
      go_upto_region 4 with (fail)
      refine wp_region_T (by kernel_rfl) (fun w' => w'.cell? ⟨w3.heap.size, 0, none⟩ = some (.slice (some ⟨gr, 0, none⟩) len l3) ∧ w'.cell? ⟨w.heap.size, 0, none⟩ = some (.slice A len cap)) [5] ⟨hc7, hc17⟩ (fun hHeld => ?_)
      refine wpAnyT_take (i := 0) (v := ?_) rfl (by kernel_rfl) (by kernel_rfl) (by kernel_rfl) (fun _ _ _ h => h) (Or.inl ⟨by rfl, ?_⟩) (by assumption) ?_
      rotate_left 1
      · intro w_ hSw; obtain ⟨hs1, hs2⟩ := hSw; go_simp <;> (with_reducible rfl)
      try simp only [Act.put, List.setIfInBounds_toArray, List.set_cons_zero, List.set_cons_succ, List.getElem_toArray, List.getElem_cons_zero]
      refine wpAnyT_take (i := 1) (v := ?_) rfl (by kernel_rfl) (by kernel_rfl) (by kernel_rfl) (fun _ _ _ h => h) (Or.inl ⟨by rfl, ?_⟩) (by assumption) ?_
      rotate_left 1
      · intro w_ hSw; obtain ⟨hs1, hs2⟩ := hSw; go_simp <;> (with_reducible rfl)
      try simp only [Act.put, List.setIfInBounds_toArray, List.set_cons_zero, List.set_cons_succ, List.getElem_toArray, List.getElem_cons_succ, List.getElem_cons_zero]
      refine wpAnyT_take (i := 2) (v := ?_) rfl (by kernel_rfl) (by kernel_rfl) (by kernel_rfl) (fun _ _ _ h => h) (Or.inl ⟨by rfl, ?_⟩) (by assumption) ?_
      rotate_left 1
      · intro w_ hSw; obtain ⟨hs1, hs2⟩ := hSw; go_simp <;> (with_reducible rfl)
      try simp only [Act.put, List.setIfInBounds_toArray, List.set_cons_zero, List.set_cons_succ, List.getElem_toArray, List.getElem_cons_succ, List.getElem_cons_zero]
      refine wpAnyT_take (i := 3) (v := ?_) rfl (by kernel_rfl) (by kernel_rfl) (by kernel_rfl) (fun _ _ _ h => h) (Or.inl ⟨by rfl, ?_⟩) (by assumption) ?_
      rotate_left 1
      · intro w_ hSw; obtain ⟨hs1, hs2⟩ := hSw; go_simp <;> (with_reducible rfl)
      try simp only [Act.put, List.setIfInBounds_toArray, List.set_cons_zero, List.set_cons_succ, List.getElem_toArray, List.getElem_cons_succ, List.getElem_cons_zero]
      refine wpAnyT_take (i := 4) (v := ?_) rfl (by kernel_rfl) (by kernel_rfl) (by kernel_rfl) (fun _ _ _ h => h) (Or.inl ⟨by rfl, ?_⟩) (by assumption) ?_
      rotate_left 1
      · intro w_ hSw; obtain ⟨hs1, hs2⟩ := hSw; go_simp <;> (with_reducible rfl)
      try simp only [Act.put, List.setIfInBounds_toArray, List.set_cons_zero, List.set_cons_succ, List.getElem_toArray, List.getElem_cons_succ, List.getElem_cons_zero]
      refine wpAnyT_ready (rs := [5]) (by kernel_rfl) (by simp) ?_
      refine AllReadyT.spoilt rfl (by kernel_rfl) (fun K hK => ?_) AllReadyT.nil
      refine step_copy_rowf (w := w7.drew) rfl (.tmp 20) (.tmp 22) rfl (show RowF w7.drew gr len _ from R7.out) 1 (len - 1) (by omega) (fun i => L.getD i 0) rfl rfl (Nat.min_eq_right (Nat.sub_le _ _)).symm ?_ ?_
      · intro hk
        have hw8 := HWw.out.below HB7.out
        obtain ⟨b, off, rfl, hb, hc⟩ := hw8.2.2.2.2 hl0
        exact ⟨if_neg (by have := HLC.out; omega), b, off, rfl, fun i hi => hc i (by omega)⟩
      intro w8 hr8 hg8 z8
      have X18 := Lib.hid (X17.out.drew.grown hg8 (fun e => n1 (Option.some.inj e).symm))
      have X28 := Lib.hid (X27.out.drew.grown hg8 (fun e => n2 (Option.some.inj e).symm))
      have X8 := Lib.hid (X7.out.drew.grown hg8 (fun e => n6 (Option.some.inj e).symm))
      have HB8 := Lib.hid (HB7.out.drew.grown hg8 HB7.out.size (fun b hb => by injection hb with hb; omega))
      have HNe : Hid (NewRow w w8 (some ⟨gr, 0, none⟩) len l3 (pushW L p)) := Lib.hid (new_row hgr HLC.out HCM.out (hr8.cong (fun i hi => (push_at (L := L) (p := p) (by rw [HL.out]; exact hi) HL.out).symm)) HLe.out HX.out)
      clear hr8 hg8
      refine hK.out _ _ ?_
      clear hK K
      try simp only [Act.put, List.setIfInBounds_toArray, List.set_cons_zero, List.set_cons_succ, List.getElem_toArray, List.getElem_cons_succ, List.getElem_cons_zero]
      refine wpAnyT_done (by kernel_rfl) ?_ _
      have hcx := X8.out.var.cell
      clear hHeld
      obtain ⟨wz, ez, VZ, hz, hNz⟩ := put_result X28.out (.slice (some ⟨gr, 0, none⟩) len l3)
      have hcz := X28.out.var.cell
      have hfz := X28.out.var.frozen 0
      have hcn := X8.out.var.cell
      have HBz := Lib.hid (HB8.out.trans (hz _ (by omega)))
      have HNz := Lib.hid (hNz HNe.out)
      clear hz hNz
      go_wp2
      all_goals refine bodyPost_ret (k.results_cell rfl rfl (run_loadVar_mid wz (w.heap.size + 1) 0 24 _ _ VZ.range rfl rfl (by kernel_rfl))) rfl ?_
      all_goals exact ⟨_, len, l3, rfl, ⟨HNz.out.1, HNz.out.got A⟩, HBz.out⟩
    · clear hr
      have HX : Hid (pushW L p = L) := Lib.hid (pushW_no fun h => hp h.2)
      have P := Lib.hid fun W => iplace_no hp W
      clear hp
      have c1 := X1.out.var.cell
      go_enter Try.func15, Try.ntmps15
      go_wp2_with (go_at_call 22; fail)
      refine (C.out _ HW.out).mono ?_
      rintro e w3 ⟨A3, l3, rfl, hN, hb⟩
      clear c1
      obtain ⟨w4, e4, V4, b4, z4⟩ := boxed w3 (.slice none 0 0)
      obtain ⟨w5, e5, V5, h5, hN5⟩ := put_result V4 (.slice A3 len l3)
      have z3 : w2.heap.size ≤ w3.heap.size := hb.size
      have z5 : w5.heap.size = w4.heap.size := by rw [← e5]; simp
      have b34 := b4.trans (h5 _ (Nat.le_refl _))
      have X15 := Lib.hid ((X1.out.under hb).under b34)
      have X25 := Lib.hid ((X2.out.under hb).under b34)
      have X5 := Lib.hid V5
      have HB5 := Lib.hid ((HB.out.trans (hb.mono HB.out.size)).trans (b34.mono (HB.out.trans (hb.mono HB.out.size)).size))
      have HN5 := Lib.hid (hN5 ((hN.from HB.out.size).under b4))
      have HW5 := Lib.hid ((HWw.out.below HB5.out).more HB5.out.size)
      have hc4 := V4.var.cell
      have hf4 := V4.var.frozen 0
      have hx1 := X15.out.var.cell
      have hd4 : w.heap.size + 1 < w3.heap.size := by omega
      clear hb hN hN5 h5 b34 b4 V4 V5
      go_wp2_with (go_at_call 13; fail)
      refine (RT.out _ HW5.out).mono ?_
      rintro e w6 ⟨rfl, hb⟩
      have X16 := Lib.hid (X15.out.under hb)
      have X26 := Lib.hid (X25.out.under hb)
      have X6 := Lib.hid (X5.out.under hb)
      have HB6 := Lib.hid (HB5.out.trans (hb.mono HB5.out.size))
      have HN6 := Lib.hid (HN5.out.under hb)
      have z6 : w5.heap.size ≤ w6.heap.size := hb.size
      clear hb
      go_wp2_with (go_at_call 18; fail)
      refine (P.out _).mono ?_
      rintro e w6' ⟨rfl, rfl⟩
      have HNe : Hid (NewRow w w6 A3 len l3 (pushW L p)) := Lib.hid (by rw [HX.out]; exact HN6.out)
      obtain ⟨wz, ez, VZ, hz, hNz⟩ := put_result X26.out (.slice A3 len l3)
      have hcz := X26.out.var.cell
      have hfz := X26.out.var.frozen 0
      have hcn := X6.out.var.cell
      have HBz := Lib.hid (HB6.out.trans (hz _ (by omega)))
      have HNz := Lib.hid (hNz HNe.out)
      clear hz hNz
      go_wp2
      all_goals refine bodyPost_ret (k.results_cell rfl rfl (run_loadVar_mid wz (w.heap.size + 1) 0 24 _ _ VZ.range rfl rfl (by kernel_rfl))) rfl ?_
      all_goals exact ⟨_, len, l3, rfl, ⟨HNz.out.1, HNz.out.got A⟩, HBz.out⟩
  · have RT := Lib.hid (show _ from (rightB_no hr) ▸ R.out)
    have HX : Hid (pushW L p = L) := Lib.hid (pushW_no fun h => hr h.1)
    clear R hr
    have c1 := X1.out.var.cell
    go_enter Try.func15, Try.ntmps15
    go_wp2_with (go_at_call 22; fail)
    refine (C.out _ HW.out).mono ?_
    rintro e w3 ⟨A3, l3, rfl, hN, hb⟩
    clear c1
    obtain ⟨w4, e4, V4, b4, z4⟩ := boxed w3 (.slice none 0 0)
    obtain ⟨w5, e5, V5, h5, hN5⟩ := put_result V4 (.slice A3 len l3)
    have z3 : w2.heap.size ≤ w3.heap.size := hb.size
    have z5 : w5.heap.size = w4.heap.size := by rw [← e5]; simp
    have b34 := b4.trans (h5 _ (Nat.le_refl _))
    have X15 := Lib.hid ((X1.out.under hb).under b34)
    have X25 := Lib.hid ((X2.out.under hb).under b34)
    have X5 := Lib.hid V5
    have HB5 := Lib.hid ((HB.out.trans (hb.mono HB.out.size)).trans (b34.mono (HB.out.trans (hb.mono HB.out.size)).size))
    have HN5 := Lib.hid (hN5 ((hN.from HB.out.size).under b4))
    have HW5 := Lib.hid ((HWw.out.below HB5.out).more HB5.out.size)
    have hc4 := V4.var.cell
    have hf4 := V4.var.frozen 0
    have hx1 := X15.out.var.cell
    have hd4 : w.heap.size + 1 < w3.heap.size := by omega
    clear hb hN hN5 h5 b34 b4 V4 V5
    go_wp2_with (go_at_call 13; fail)
    refine (RT.out _ HW5.out).mono ?_
    rintro e w6 ⟨rfl, hb⟩
    have X16 := Lib.hid (X15.out.under hb)
    have X26 := Lib.hid (X25.out.under hb)
    have X6 := Lib.hid (X5.out.under hb)
    have HB6 := Lib.hid (HB5.out.trans (hb.mono HB5.out.size))
    have HN6 := Lib.hid (HN5.out.under hb)
    have z6 : w5.heap.size ≤ w6.heap.size := hb.size
    clear hb
    have HNe : Hid (NewRow w w6 A3 len l3 (pushW L p)) := Lib.hid (by rw [HX.out]; exact HN6.out)
    obtain ⟨wz, ez, VZ, hz, hNz⟩ := put_result X26.out (.slice A3 len l3)
    have hcz := X26.out.var.cell
    have hfz := X26.out.var.frozen 0
    have hcn := X6.out.var.cell
    have HBz := Lib.hid (HB6.out.trans (hz _ (by omega)))
    have HNz := Lib.hid (hNz HNe.out)
    clear hz hNz
    go_wp2
    all_goals refine bodyPost_ret (k.results_cell rfl rfl (run_loadVar_mid wz (w.heap.size + 1) 0 24 _ _ VZ.range rfl rfl (by kernel_rfl))) rfl ?_
    all_goals exact ⟨_, len, l3, rfl, ⟨HNz.out.1, HNz.out.got A⟩, HBz.out⟩
end Go.Proofs.Ytgfhpdgohjnooaa.mm
