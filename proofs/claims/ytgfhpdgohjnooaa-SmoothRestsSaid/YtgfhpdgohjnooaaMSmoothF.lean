/- What slices.Repeat of one integer and smooth's New answer; what was in memory is as it was. No condition beyond what each line says. -/
import Derived.Test.YtgfhpdgohjnooaaMSmoothE
import Derived.Test.YtgfhpdgohjnooaaMCopy
import Derived.Laws.MakeOwn
namespace Go.Proofs.Ytgfhpdgohjnooaa.mm
open Go.ChangeShapes Go.WideShapes Go.ChangeAt Go.RowKit Go.Proofs.Ytgfhpdgohjnooaa.k
set_option linter.unusedVariables false

theorem one_of16 {m : Int} (h1 : 1 ≤ m) (h2 : m ≤ 16) : m = 1 ∨ m = 2 ∨ m = 3 ∨ m = 4 ∨ m = 5 ∨ m = 6 ∨ m = 7 ∨ m = 8 ∨ m = 9 ∨ m = 10 ∨ m = 11 ∨ m = 12 ∨ m = 13 ∨ m = 14 ∨ m = 15 ∨ m = 16 := by omega
set_option maxHeartbeats 4000000 in
theorem mul64_one {m : Int} (h1 : 1 ≤ m) (h2 : m ≤ 16) (w : World) : Calls Try.prog 28 #[.int .u64 1, .int .u64 m] w fun e w' => e = .returned (.tuple #[.int .u64 0, .int .u64 m]) ∧ w = w' := by
  rcases one_of16 h1 h2 with rfl | rfl | rfl | rfl | rfl | rfl | rfl | rfl | rfl | rfl | rfl | rfl | rfl | rfl | rfl | rfl
  all_goals (
    clear h1 h2
    go_enter Try.func28, Try.ntmps28
    go_wp2
    go_ret2
    exact ⟨rfl, rfl⟩)
set_option maxHeartbeats 1000000 in
theorem mul_one {m : Int} (h1 : 1 ≤ m) (h2 : m ≤ 16) (w : World) : Calls Try.prog 25 #[.int .u64 1, .int .u64 m] w fun e w' => e = .returned (.tuple #[.int .u64 0, .int .u64 m]) ∧ w = w' := by
  have C := Lib.hid fun W => mul64_one h1 h2 W
  go_enter Try.func25, Try.ntmps25
  go_wp2_with (go_at_call 28; ((with_reducible refine (C.out _).mono ?_); rintro e w' ⟨rfl, rfl⟩))
  go_ret2
  exact ⟨rfl, rfl⟩
theorem made_row (w : World) (M : Nat) : ∃ W, w.alloc (.cells (madeCells #[.int .i64 0] M) 2) = W ∧ RowF W w.heap.size M (fun _ => 0) ∧ Below w.heap.size w W ∧ W.heap.size = w.heap.size + 1 :=
  ⟨_, rfl, ⟨madeCells #[.int .i64 0] M, heap_alloc_new w _, by simp [madeCells], fun i hi => by simp [madeCells, hi, Nat.mod_one]⟩, (Below.refl _ _).alloc (Nat.le_refl _) _, by simp⟩
theorem make_int (w : World) (M : Nat) (h : M ≤ 16) : (Instr.makeSlice 22 (.int .i64 (M : Int)) (.int .i64 (M : Int))).run Try.prog w = .ok (.slice (some ⟨w.heap.size, 0, none⟩) M M) (w.alloc (.cells (madeCells #[.int .i64 0] M) 2)) := by
  obtain ⟨i0, hi0, hz0, hz1, hz2⟩ := info_parts int_info
  have := run_makeSlice (P := Try.prog) (w := w) 22 2 i0 (.int .i64 0) Try.underlying22 hi0 hz0 .i64 .i64 M M (by omega) (Int.le_refl _) (by rw [hz1]; omega) (by rw [hz2]; omega) (by omega)
  rw [hz1] at this
  simp only [Int.toNat_natCast, Nat.mul_one] at this
  exact this
set_option maxHeartbeats 4000000 in
theorem repeat_one (p : Int) {m : Int} (h1 : 1 ≤ m) (h2 : m ≤ 16) {g B : Nat} {w : World} (h : Win w B (some ⟨g, 0, none⟩) 1 1 [p]) (hB : B ≤ w.heap.size) :
    Calls Try.prog 19 #[.slice (some ⟨g, 0, none⟩) 1 1, .int .i64 m] w fun e w' => ∃ A' cap', e = .returned (.slice A' m.toNat cap') ∧ NewRow w w' A' m.toNat cap' (List.replicate m.toNat p) ∧ Below w.heap.size w w' := by
  obtain ⟨M, rfl⟩ : ∃ M : Nat, m = (M : Int) := ⟨m.toNat, by omega⟩
  have HM := Lib.hid (show 1 ≤ M ∧ M ≤ 16 by omega)
  have C := Lib.hid fun W => mul_one h1 h2 W
  have hm0 : ¬ ((M : Int) < 0) := by omega
  have hmp : (0 : Int) ≤ (M : Int) := by omega
  have hw1 : IntKind.u64.wrap (M : Int) = (M : Int) := by rw [IntKind.wrap_u64]; omega
  have hw2 : IntKind.i64.wrap (M : Int) = (M : Int) := by rw [IntKind.wrap_i64]; omega
  have HW := Lib.hid (h.more hB)
  obtain ⟨w1, e1, R1, b1, z1⟩ := made_row w M
  have hmk := make_int w M (by omega)
  rw [e1] at hmk
  have hcell := h.at (i := 0) (by omega)
  obtain ⟨b, off, e, hb, hc0⟩ := hcell
  injection e with e
  injection e with e2 e3
  subst e2 e3
  have hc1 : w1.cell? ⟨g, 0, none⟩ = some (.int .i64 p) := (b1.cell (p := ⟨g, 0, none⟩) (Nat.lt_of_lt_of_le hb hB)).trans hc0
  have HMin : Hid (1 = Nat.min 1 M) := Lib.hid (Nat.min_eq_left (by omega)).symm
  obtain ⟨w2, hrun, hr2, hg2, hz2⟩ := copy_rowf R1 (off := 0) (k := 1) (dp := some ⟨w.heap.size, 0, none⟩) (sp := some ⟨g, 0, none⟩) (dLen := M) (dCap := M) (sLen := 1) (sCap := 1) (by omega) (fun _ => p) 3 HMin.out (fun _ => ⟨rfl, g, 0, rfl, fun i hi => by rw [show 0 + i = 0 by omega]; exact hc1⟩)
  have HR2 : Hid (RowF w2 w.heap.size M (fun i => if i < 1 then p else 0)) := Lib.hid (hr2.cong (fun i _ => by simp))
  have HB2 := Lib.hid (b1.grown hg2 b1.size (fun b hb => by injection hb with hb; omega))
  clear hr2 hg2 hz2
  clear h hc0 R1 b1 hc1 e1
  go_enter Try.func19, Try.ntmps19
  go_wp2_with (go_at_call 25; fail)
  refine (C.out _).mono ?_
  rintro e w' ⟨rfl, rfl⟩
  go_wp2
  go_loopw [8] (fun i wr => ∃ j : Nat, 1 ≤ j ∧ j ≤ M ∧ i = .int .i64 j ∧ RowF wr w.heap.size M (fun i => if i < j then p else 0) ∧ Below w.heap.size w wr) (fun i _ => M - (intOf i).toNat)
  case atStart => exact ⟨1, Nat.le_refl _, by have := HM.out; omega, by go_num, HR2.out, HB2.out⟩
  case round =>
    obtain ⟨j, hj1, hj, rfl, hR, hBw⟩ := hrel
    have RR := Lib.hid hR
    have YB := Lib.hid hBw
    clear hR hBw
    by_cases hlt : j < M
    · have hj0 : (0 : Int) ≤ (j : Int) := by omega
      have hj2 : (j : Int) < (M : Int) := by omega
      have hj3 : (j : Int) ≤ (M : Int) := by omega
      have hne : ¬ M = j := by omega
      have hne2 : ¬ j = M := by omega
      have hne0 : ¬ j = 0 := by omega
      obtain ⟨k, hk⟩ : ∃ k, Nat.min j (M - j) = k := ⟨_, rfl⟩
      have hk2 : k ≤ j ∧ k ≤ M - j ∧ 1 ≤ k := by rw [← hk]; refine ⟨Nat.min_le_left _ _, Nat.min_le_right _ _, ?_⟩; exact Nat.le_min.2 ⟨by omega, by omega⟩
      have HK := Lib.hid hk2
      have HK2 := Lib.hid hk
      have hadd : IntKind.i64.wrap ((j : Int) + (k : Int)) = (j : Int) + (k : Int) := by rw [IntKind.wrap_i64]; have := HM.out; omega
      clear hk2 hk
      go_wp2
      refine wp_region_T (by kernel_rfl) (fun _ => True) [] trivial (fun hHeld => ?_)
      refine wpAnyT_take (i := 0) (v := ?_) rfl (by kernel_rfl) (by kernel_rfl) (by kernel_rfl) (fun _ _ _ h => h) (Or.inl ⟨by rfl, ?_⟩) (by assumption) ?_
      rotate_left 1
      · intro w_ hSw; clear hSw; go_simp <;> (with_reducible rfl)
      try simp only [Act.put, List.setIfInBounds_toArray, List.set_cons_zero, List.set_cons_succ, List.getElem_toArray, List.getElem_cons_zero]
      refine wpAnyT_take (i := 1) (v := ?_) rfl (by kernel_rfl) (by kernel_rfl) (by kernel_rfl) (fun _ _ _ h => h) (Or.inl ⟨by rfl, ?_⟩) (by assumption) ?_
      rotate_left 1
      · intro w_ hSw; clear hSw; go_simp <;> (with_reducible rfl)
      try simp only [Act.put, List.setIfInBounds_toArray, List.set_cons_zero, List.set_cons_succ, List.getElem_toArray, List.getElem_cons_succ, List.getElem_cons_zero]
      refine wpAnyT_take (i := 2) (v := ?_) rfl (by kernel_rfl) (by kernel_rfl) (by kernel_rfl) (fun _ _ _ h => h) (Or.inl ⟨by rfl, ?_⟩) (by assumption) ?_
      rotate_left 1
      · intro w_ hSw; clear hSw; go_simp <;> (with_reducible rfl)
      try simp only [Act.put, List.setIfInBounds_toArray, List.set_cons_zero, List.set_cons_succ, List.getElem_toArray, List.getElem_cons_succ, List.getElem_cons_zero]
      refine wpAnyT_take (i := 3) (v := ?_) rfl (by kernel_rfl) (by kernel_rfl) (by kernel_rfl) (fun _ _ _ h => h) (Or.inl ⟨by rfl, ?_⟩) (by assumption) ?_
      rotate_left 1
      · intro w_ hSw; clear hSw; go_simp <;> (with_reducible rfl)
      try simp only [Act.put, List.setIfInBounds_toArray, List.set_cons_zero, List.set_cons_succ, List.getElem_toArray, List.getElem_cons_succ, List.getElem_cons_zero]
      refine wpAnyT_take (i := 4) (v := ?_) rfl (by kernel_rfl) (by kernel_rfl) (by kernel_rfl) (fun _ _ _ h => h) (Or.inl ⟨by rfl, ?_⟩) (by assumption) ?_
      rotate_left 1
      · intro w_ hSw; clear hSw; go_simp <;> (with_reducible rfl)
      try simp only [Act.put, List.setIfInBounds_toArray, List.set_cons_zero, List.set_cons_succ, List.getElem_toArray, List.getElem_cons_succ, List.getElem_cons_zero]
      refine wpAnyT_take (i := 5) (v := ?_) rfl (by kernel_rfl) (by kernel_rfl) (by kernel_rfl) (fun _ _ _ h => h) (Or.inl ⟨by rfl, ?_⟩) (by assumption) ?_
      rotate_left 1
      · intro w_ hSw; clear hSw; go_simp <;> (with_reducible rfl)
      try simp only [Act.put, List.setIfInBounds_toArray, List.set_cons_zero, List.set_cons_succ, List.getElem_toArray, List.getElem_cons_succ, List.getElem_cons_zero]
      refine wpAnyT_take (i := 6) (v := ?_) rfl (by kernel_rfl) (by kernel_rfl) (by kernel_rfl) (fun _ _ _ h => h) (Or.inl ⟨by rfl, ?_⟩) (by assumption) ?_
      rotate_left 1
      · intro w_ hSw; clear hSw; go_simp <;> (with_reducible rfl)
      try simp only [Act.put, List.setIfInBounds_toArray, List.set_cons_zero, List.set_cons_succ, List.getElem_toArray, List.getElem_cons_succ, List.getElem_cons_zero]
      refine wpAnyT_ready (rs := [7]) (by kernel_rfl) (by simp) ?_
      refine AllReadyT.cons rfl (fun K hK => ?_) AllReadyT.nil
      refine step_copy_rowf (w := wr.drew) rfl (.tmp 41) (.tmp 44) rfl (show RowF wr.drew w.heap.size M _ from RR.out) j k (by have := HK.out; omega) (fun _ => p) rfl rfl HK2.out.symm ?_ ?_
      · intro hk
        exact ⟨rfl, w.heap.size, 0, rfl, fun i hi => by
          rw [Nat.zero_add]
          have := HK.out
          have h2 := (show RowF wr.drew w.heap.size M _ from RR.out).cell (i := i) (by omega)
          rw [h2, if_pos (by omega)]⟩
      intro w8 hr8 hg8 z8
      have YR : Hid (RowF w8 w.heap.size M (fun i => if i < j + k then p else 0)) := Lib.hid (hr8.cong (fun i _ => by split <;> split <;> (try split) <;> (first | rfl | omega)))
      have YB8 := Lib.hid (YB.out.drew.grown hg8 YB.out.size (fun b hb => by injection hb with hb; omega))
      clear hr8 hg8 z8
      refine hK.out _ _ trivial (fun hHeld => ?_)
      clear hK K
      try simp only [Act.put, List.setIfInBounds_toArray, List.set_cons_zero, List.set_cons_succ, List.getElem_toArray, List.getElem_cons_succ, List.getElem_cons_zero]
      refine wpAnyT_take (i := 8) (v := ?_) rfl (by kernel_rfl) (by kernel_rfl) (by kernel_rfl) (fun _ _ _ h => h) (Or.inl ⟨by rfl, ?_⟩) (by assumption) ?_
      rotate_left 1
      · intro w_ hSw; clear hSw; go_simp <;> (with_reducible rfl)
      try simp only [Act.put, List.setIfInBounds_toArray, List.set_cons_zero, List.set_cons_succ, List.getElem_toArray, List.getElem_cons_succ, List.getElem_cons_zero]
      refine wpAnyT_take (i := 9) (v := ?_) rfl (by kernel_rfl) (by kernel_rfl) (by kernel_rfl) (fun _ _ _ h => h) (Or.inl ⟨by rfl, ?_⟩) (by assumption) ?_
      rotate_left 1
      · intro w_ hSw; clear hSw; go_simp <;> (with_reducible rfl)
      try simp only [Act.put, List.setIfInBounds_toArray, List.set_cons_zero, List.set_cons_succ, List.getElem_toArray, List.getElem_cons_succ, List.getElem_cons_zero]
      refine wpAnyT_done (by kernel_rfl) ?_ _
      go_wp2
      go_roundw
      case rel => exact ⟨j + k, by have := HK.out; omega, by have := HK.out; omega, by go_num, YR.out, YB8.out⟩
      case measure => have := HK.out; simp [intOf]; omega
    · have hjl : M = j := by omega
      subst hjl
      have HNe : Hid (NewRow w wr (some ⟨w.heap.size, 0, none⟩) M M (List.replicate M p)) := Lib.hid (new_row (Nat.le_refl _) (Nat.le_refl _) (by have := HM.out; unfold maxLen; omega) (RR.out.cong (fun i hi => by simp [hi])) (by simp) rfl)
      go_wp2
      go_ret
      exact ⟨_, M, rfl, HNe.out, YB.out⟩
end Go.Proofs.Ytgfhpdgohjnooaa.mm
