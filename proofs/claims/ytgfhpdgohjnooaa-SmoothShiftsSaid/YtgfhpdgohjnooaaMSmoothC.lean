/- What smooth's Rest answers; what was in memory is as it was. No condition beyond what each line says. -/
import Derived.Test.YtgfhpdgohjnooaaMSmoothB
namespace Go.Proofs.Ytgfhpdgohjnooaa.mm
open Go.ChangeShapes Go.WideShapes Go.ChangeAt Go.RowKit Go.Proofs.Ytgfhpdgohjnooaa.k
set_option linter.unusedVariables false

theorem boxed (w : World) (v : Value) : ∃ W, w.alloc (.cells #[v] 24) = W ∧ VarS W w.heap.size v ∧ Below w.heap.size w W ∧ W.heap.size = w.heap.size + 1 :=
  ⟨_, rfl, VarS.new w _, (Below.refl _ _).alloc (Nat.le_refl _) _, by simp⟩

set_option maxHeartbeats 2000000 in
theorem rest_any (L : List Int) {A : Option Addr} {len cap B : Nat} {w : World} (h : Win w B A len cap L) (hB : B ≤ w.heap.size) :
    Calls Try.prog 11 #[.agg #[.slice A len cap]] w fun e w' => e = .returned (.bool (restB L)) ∧ Below w.heap.size w w' := by
  obtain ⟨w1, e1, V1, b1, z1⟩ := boxed w (.slice A len cap)
  have X1 := Lib.hid V1
  have HB := Lib.hid b1
  have HW := Lib.hid (((h.more hB).below b1).more b1.size)
  have R := Lib.hid fun (W : World) (h : Win W W.heap.size A len cap L) => isright_any L h (Nat.le_refl _)
  have hd : w.heap.size < w1.heap.size := by omega
  have c1 := X1.out.var.cell
  have HL := Lib.hid h.1
  clear h V1 b1
  by_cases hr : RightW L
  · have RY := R.out
    rw [rightB_yes hr] at RY
    have RT := Lib.hid RY
    have hl0 : 0 < len := by rw [← HL.out]; exact hr.1
    have HX := rest_mm hr
    rw [HL.out] at HX
    have M1 := Lib.hid fun (W : World) (h : Win W W.heap.size A len cap L) => min_any L h hl0
    have M2 := Lib.hid fun (W : World) (h : Win W W.heap.size A len cap L) => max_any L h hl0
    generalize mnL L len = mn at *
    generalize mxL L len = mx at *
    have HX2 : Hid ((mn == mx) = restB L) := Lib.hid (by rw [← HX]; exact (Bool.eq_iff_iff.2 (by simp)))
    clear R RY HX hr
    have WD := Lib.hid HW.out.drew
    have VD := Lib.hid X1.out.drew
    have BD := Lib.hid HB.out.drew
    go_enter Try.func11, Try.ntmps11
    go_wp2
    go_region_held3 (fun w' => w'.cell? ⟨w.heap.size, 0, none⟩ = some (.slice A len cap)) (first | assumption | (simp [*]; done))
      (first
        | (go_at_call 13; ((refine (RT.out _ WD.out).mono ?_); rintro e w6 ⟨rfl, hb⟩; have W6 := Lib.hid ((WD.out.below hb).more hb.size); have V6 := Lib.hid (VD.out.under hb); have H6 := Lib.hid (BD.out.trans (hb.mono BD.out.size)); clear hb; have hc6 := V6.out.var.cell))
        | (go_at_call 20; ((refine (M1.out _ W6.out).mono ?_); rintro e w7 ⟨rfl, rfl⟩))
        | (go_at_call 21; ((refine (M2.out _ W6.out).mono ?_); rintro e w7 ⟨rfl, rfl⟩)))
    go_wp2
    go_ret
    exact ⟨ret_bool HX2.out, H6.out⟩
  · have RY := R.out
    rw [rightB_no hr] at RY
    have RF := Lib.hid RY
    have HX : Hid (restB L = false) := Lib.hid (decide_eq_false fun h => hr h.1)
    clear R RY hr
    have WD := Lib.hid HW.out.drew
    have VD := Lib.hid X1.out.drew
    have BD := Lib.hid HB.out.drew
    go_enter Try.func11, Try.ntmps11
    go_wp2
    refine wp_region_T (by kernel_rfl) (fun w' => w'.cell? ⟨w.heap.size, 0, none⟩ = some (.slice A len cap)) [] c1 (fun hHeld => ?_)
    refine wpAnyT_take (i := 0) (v := ?_) rfl (by kernel_rfl) (by kernel_rfl) (by kernel_rfl) (fun _ _ _ h => h) (Or.inl ⟨by rfl, ?_⟩) (by assumption) ?_
    rotate_left 1
    · intro w_ hSw; skip; go_simp <;> (with_reducible rfl)
    try simp only [Act.put, List.setIfInBounds_toArray, List.set_cons_zero, List.set_cons_succ, List.getElem_toArray, List.getElem_cons_zero]
    refine wpAnyT_ready (rs := [1]) (by kernel_rfl) (by simp) ?_
    refine AllReadyT.cons rfl (fun K hK => ?_) AllReadyT.nil
    go_simp
    (go_at_call 13; ((refine (RF.out _ WD.out).mono ?_); rintro e u1 ⟨rfl, hb⟩))
    have V6 := Lib.hid (VD.out.under hb)
    have H6 := Lib.hid (BD.out.trans (hb.mono BD.out.size))
    clear hb
    have hc6 := V6.out.var.cell
    go_wp2_with fail
    refine hK.out _ _ hc6 (fun hHeld => ?_)
    clear hK K
    try simp only [Act.put, List.setIfInBounds_toArray, List.set_cons_zero, List.set_cons_succ, List.getElem_toArray, List.getElem_cons_succ, List.getElem_cons_zero]
    refine wpAnyT_take (i := 2) (v := ?_) rfl (by kernel_rfl) (by kernel_rfl) (by kernel_rfl) (fun _ _ _ h => h) (Or.inl ⟨by rfl, ?_⟩) (by assumption) ?_
    rotate_left 1
    · intro w_ hSw; clear hSw; go_simp <;> (with_reducible rfl)
    try simp only [Act.put, List.setIfInBounds_toArray, List.set_cons_zero, List.set_cons_succ, List.getElem_toArray, List.getElem_cons_succ, List.getElem_cons_zero]
    refine wpAnyT_take (i := 3) (v := undef) rfl (by kernel_rfl) (by kernel_rfl) (by kernel_rfl) (fun _ _ _ h => h) (Or.inr ⟨by rfl, rfl⟩) (by assumption) ?_
    try simp only [Act.put, List.setIfInBounds_toArray, List.set_cons_zero, List.set_cons_succ, List.getElem_toArray, List.getElem_cons_succ, List.getElem_cons_zero]
    refine wpAnyT_take (i := 4) (v := undef) rfl (by kernel_rfl) (by kernel_rfl) (by kernel_rfl) (fun _ _ _ h => h) (Or.inr ⟨by rfl, rfl⟩) (by assumption) ?_
    try simp only [Act.put, List.setIfInBounds_toArray, List.set_cons_zero, List.set_cons_succ, List.getElem_toArray, List.getElem_cons_succ, List.getElem_cons_zero]
    refine wpAnyT_take (i := 5) (v := undef) rfl (by kernel_rfl) (by kernel_rfl) (by kernel_rfl) (fun _ _ _ h => h) (Or.inr ⟨by rfl, rfl⟩) (by assumption) ?_
    try simp only [Act.put, List.setIfInBounds_toArray, List.set_cons_zero, List.set_cons_succ, List.getElem_toArray, List.getElem_cons_succ, List.getElem_cons_zero]
    refine wpAnyT_take (i := 6) (v := undef) rfl (by kernel_rfl) (by kernel_rfl) (by kernel_rfl) (fun _ _ _ h => h) (Or.inr ⟨by rfl, rfl⟩) (by assumption) ?_
    try simp only [Act.put, List.setIfInBounds_toArray, List.set_cons_zero, List.set_cons_succ, List.getElem_toArray, List.getElem_cons_succ, List.getElem_cons_zero]
    refine wpAnyT_take (i := 7) (v := undef) rfl (by kernel_rfl) (by kernel_rfl) (by kernel_rfl) (fun _ _ _ h => h) (Or.inr ⟨by rfl, rfl⟩) (by assumption) ?_
    try simp only [Act.put, List.setIfInBounds_toArray, List.set_cons_zero, List.set_cons_succ, List.getElem_toArray, List.getElem_cons_succ, List.getElem_cons_zero]
    refine wpAnyT_take (i := 8) (v := undef) rfl (by kernel_rfl) (by kernel_rfl) (by kernel_rfl) (fun _ _ _ h => h) (Or.inr ⟨by rfl, rfl⟩) (by assumption) ?_
    try simp only [Act.put, List.setIfInBounds_toArray, List.set_cons_zero, List.set_cons_succ, List.getElem_toArray, List.getElem_cons_succ, List.getElem_cons_zero]
    refine wpAnyT_take (i := 9) (v := undef) rfl (by kernel_rfl) (by kernel_rfl) (by kernel_rfl) (fun _ _ _ h => h) (Or.inr ⟨by rfl, rfl⟩) (by assumption) ?_
    try simp only [Act.put, List.setIfInBounds_toArray, List.set_cons_zero, List.set_cons_succ, List.getElem_toArray, List.getElem_cons_succ, List.getElem_cons_zero]
    refine wpAnyT_take (i := 10) (v := ?_) rfl (by kernel_rfl) (by kernel_rfl) (by kernel_rfl) (fun _ _ _ h => h) (Or.inl ⟨by rfl, ?_⟩) (by assumption) ?_
    rotate_left 1
    · intro w_ hSw; clear hSw; go_simp <;> (with_reducible rfl)
    try simp only [Act.put, List.setIfInBounds_toArray, List.set_cons_zero, List.set_cons_succ, List.getElem_toArray, List.getElem_cons_succ, List.getElem_cons_zero]
    refine wpAnyT_take (i := 11) (v := ?_) rfl (by kernel_rfl) (by kernel_rfl) (by kernel_rfl) (fun _ _ _ h => h) (Or.inl ⟨by rfl, ?_⟩) (by assumption) ?_
    rotate_left 1
    · intro w_ hSw; clear hSw; go_simp <;> (with_reducible rfl)
    try simp only [Act.put, List.setIfInBounds_toArray, List.set_cons_zero, List.set_cons_succ, List.getElem_toArray, List.getElem_cons_succ, List.getElem_cons_zero]
    refine wpAnyT_done (by kernel_rfl) ?_ _
    go_wp2
    go_ret
    exact ⟨ret_bool HX.out.symm, H6.out⟩
end Go.Proofs.Ytgfhpdgohjnooaa.mm
