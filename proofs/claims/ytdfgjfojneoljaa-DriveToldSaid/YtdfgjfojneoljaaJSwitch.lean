/- What servitorref07's settled and Switch answer; what was in memory is as it was. No condition beyond the kind's own bounds. -/
import Derived.Test.YtdfgjfojneoljaaVMath
namespace Go.Proofs.Ytdfgjfojneoljaa.j
open Go.ChangeShapes Go.WideShapes Go.ChangeAt Go.RowKit Go.Proofs.Ytdfgjfojneoljaa.k Go.Proofs.Ytdfgjfojneoljaa.v
set_option linter.unusedVariables false

def BoxB (w : World) (c : Int) (v : Bool) (o : Int) : World := w.alloc (.cells #[.int .i64 c, .bool v, .int .i64 o] 25)
theorem settled_any (c : Int) (v : Bool) (o : Int) (hc : -9223372036854775808 ≤ c ∧ c ≤ 9223372036854775807) (w : World) :
    Calls Try.prog 21 #[.agg #[.int .i64 c, .bool v, .int .i64 o]] w fun e w' => e = .returned (.bool (rightB c o)) ∧ BoxB w c v o = w' := by
  by_cases h1 : 1 ≤ c
  · by_cases h2 : c ≤ 20
    · by_cases h3 : 0 ≤ o
      · by_cases h4 : o ≤ c - 1
        · have HV := Lib.hid (right_yes (c := c) (o := o) ⟨h1, h2, h3, h4⟩)
          go_enter Try.func21, Try.ntmps21
          go_wp2
          go_ret
          exact ⟨ret_bool HV.out.symm, rfl⟩
        · have HV := Lib.hid (right_no (c := c) (o := o) fun h => h4 h.2.2.2)
          have r5 : decide (o ≤ c - 1) = false := decide_eq_false h4
          have r6 : c - 1 < o := by omega
          go_enter Try.func21, Try.ntmps21
          go_wp2
          go_ret
          exact ⟨ret_bool HV.out.symm, rfl⟩
      · have HV := Lib.hid (right_no (c := c) (o := o) fun h => h3 h.2.2.1)
        go_enter Try.func21, Try.ntmps21
        go_wp2
        go_ret
        exact ⟨ret_bool HV.out.symm, rfl⟩
    · have HV := Lib.hid (right_no (c := c) (o := o) fun h => h2 h.2.1)
      go_enter Try.func21, Try.ntmps21
      go_wp2
      go_ret
      exact ⟨ret_bool HV.out.symm, rfl⟩
  · have HV := Lib.hid (right_no (c := c) (o := o) fun h => h1 h.1)
    go_enter Try.func21, Try.ntmps21
    go_wp2
    go_ret
    exact ⟨ret_bool HV.out.symm, rfl⟩
theorem switch_any (c : Int) (v : Bool) (o : Int) (s : Bool) (h : RightB c o) (w : World) :
    Calls Try.prog 36 #[.agg #[.int .i64 c, .bool v, .int .i64 o], .bool s] w fun e w' => e = .returned (.agg #[.int .i64 c, .bool (stepV c v o s), .int .i64 (stepO c v o s)]) ∧ Below w.heap.size w w' := by
  obtain ⟨r1, r2, r3, r4⟩ := h
  by_cases hs : s = v
  · obtain ⟨q1, q2⟩ := step_same (c := c) (o := o) hs
    rw [q1, q2]
    subst hs
    clear q1 q2
    go_enter Try.func36, Try.ntmps36
    go_wp2
    refine bodyPost_ret (v := .agg #[.int .i64 c, .bool s, .int .i64 0]) (by simp [results, Try.results36, go_sem]) rfl ⟨rfl, ?_⟩
    repeat (first | with_reducible exact Below.refl _ _ | (with_reducible refine Below.setCell ?_ ?_ _; rotate_left 1; focus (first | (simp; done) | (simp; omega))) | (with_reducible refine Below.alloc ?_ ?_ _; rotate_left 1; focus (first | (simp; done) | (simp; omega))))
  · have hb : (s == v) = false := by rw [beq_eq_false_iff_ne]; exact hs
    by_cases ho : o + 1 = c
    · obtain ⟨q1, q2⟩ := step_full hs ho
      rw [q1, q2]
      have hob : (o == c - 1) = true := by rw [beq_iff_eq]; omega
      clear q1 q2 hs ho
      go_enter Try.func36, Try.ntmps36
      go_wp2
      refine bodyPost_ret (v := .agg #[.int .i64 c, .bool s, .int .i64 0]) (by simp [results, Try.results36, go_sem]) rfl ⟨rfl, ?_⟩
      repeat (first | with_reducible exact Below.refl _ _ | (with_reducible refine Below.setCell ?_ ?_ _; rotate_left 1; focus (first | (simp; done) | (simp; omega))) | (with_reducible refine Below.alloc ?_ ?_ _; rotate_left 1; focus (first | (simp; done) | (simp; omega))))
    · obtain ⟨q1, q2⟩ := step_more hs ho
      rw [q1, q2]
      have hob : (o == c - 1) = false := by rw [beq_eq_false_iff_ne]; omega
      clear q1 q2 hs ho
      go_enter Try.func36, Try.ntmps36
      go_wp2
      refine bodyPost_ret (v := .agg #[.int .i64 c, .bool v, .int .i64 (o + 1)]) (by simp [results, Try.results36, go_sem]) rfl ⟨rfl, ?_⟩
      repeat (first | with_reducible exact Below.refl _ _ | (with_reducible refine Below.setCell ?_ ?_ _; rotate_left 1; focus (first | (simp; done) | (simp; omega))) | (with_reducible refine Below.alloc ?_ ?_ _; rotate_left 1; focus (first | (simp; done) | (simp; omega))))
end Go.Proofs.Ytdfgjfojneoljaa.j
