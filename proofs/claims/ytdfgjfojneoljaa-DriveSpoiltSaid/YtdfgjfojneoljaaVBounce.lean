/- What layer bounce's New, Right and Step answer; what was in memory is as it was. No condition beyond what each line says. -/
import Derived.Test.YtdfgjfojneoljaaVMath
namespace Go.Proofs.Ytdfgjfojneoljaa.v
open Go.ChangeShapes Go.WideShapes Go.ChangeAt Go.RowKit Go.Proofs.Ytdfgjfojneoljaa.k
set_option linter.unusedVariables false

theorem new_yes (c : Int) (v : Bool) (h1 : 1 ≤ c) (h2 : c ≤ 20) (w : World) :
    Calls Try.prog 20 #[.int .i64 c, .bool v] w fun e w' => e = .returned (.tuple #[.agg #[.int .i64 c, .bool v, .int .i64 0], .int .i64 0]) ∧ Below w.heap.size w w' := by
  go_enter Try.func20, Try.ntmps20
  go_wp2
  refine bodyPost_ret (v := .tuple #[.agg #[.int .i64 c, .bool v, .int .i64 0], .int .i64 0]) (by simp [results, Try.results20, go_sem]) rfl ⟨rfl, ?_⟩
  repeat (first | exact Below.refl _ _ | (refine Below.setCell ?_ (by first | (simp; done) | (simp; omega)) _) | (refine Below.alloc ?_ (by first | (simp; done) | (simp; omega)) _))
theorem new_no (c : Int) (v : Bool) (h : c < 1 ∨ 20 < c) (w : World) :
    Calls Try.prog 20 #[.int .i64 c, .bool v] w fun e w' => e = .returned (.tuple #[.agg #[.int .i64 0, .bool false, .int .i64 0], .int .i64 1]) ∧ Below w.heap.size w w' := by
  by_cases h1 : c < 1
  · clear h
    go_enter Try.func20, Try.ntmps20
    go_wp2
    refine bodyPost_ret (v := .tuple #[.agg #[.int .i64 0, .bool false, .int .i64 0], .int .i64 1]) (by simp [results, Try.results20, go_sem]) rfl ⟨rfl, ?_⟩
    repeat (first | exact Below.refl _ _ | (refine Below.setCell ?_ (by first | (simp; done) | (simp; omega)) _) | (refine Below.alloc ?_ (by first | (simp; done) | (simp; omega)) _))
  · have h2 : 20 < c := by omega
    clear h
    go_enter Try.func20, Try.ntmps20
    go_wp2
    refine bodyPost_ret (v := .tuple #[.agg #[.int .i64 0, .bool false, .int .i64 0], .int .i64 1]) (by simp [results, Try.results20, go_sem]) rfl ⟨rfl, ?_⟩
    repeat (first | exact Below.refl _ _ | (refine Below.setCell ?_ (by first | (simp; done) | (simp; omega)) _) | (refine Below.alloc ?_ (by first | (simp; done) | (simp; omega)) _))
theorem right_any (c : Int) (v : Bool) (o : Int) (w : World) :
    Calls Try.prog 38 #[.agg #[.int .i64 c, .bool v, .int .i64 o]] w fun e w' => e = .returned (.bool (rightB c o)) ∧ Below w.heap.size w w' := by
  by_cases h1 : 1 ≤ c
  · by_cases h2 : c ≤ 20
    · by_cases h3 : 0 ≤ o
      · by_cases h4 : o ≤ c - 1
        · have HD : decide (o ≤ c - 1) = true := decide_eq_true h4
          have HV := Lib.hid (right_yes (c := c) (o := o) ⟨h1, h2, h3, by omega⟩)
          go_enter Try.func38, Try.ntmps38
          go_wp2
          go_ret
          exact ⟨ret_bool HV.out.symm, (Below.refl _ _).alloc (Nat.le_refl _) _⟩
        · have HD : decide (o ≤ c - 1) = false := decide_eq_false h4
          have HV := Lib.hid (right_no (c := c) (o := o) fun h => by have := h.2.2.2; omega)
          go_enter Try.func38, Try.ntmps38
          go_wp2
          go_ret
          exact ⟨ret_bool HV.out.symm, (Below.refl _ _).alloc (Nat.le_refl _) _⟩
      · have HV := Lib.hid (right_no (c := c) (o := o) fun h => h3 h.2.2.1)
        go_enter Try.func38, Try.ntmps38
        go_wp2
        go_ret
        exact ⟨ret_bool HV.out.symm, (Below.refl _ _).alloc (Nat.le_refl _) _⟩
    · have HV := Lib.hid (right_no (c := c) (o := o) fun h => h2 h.2.1)
      go_enter Try.func38, Try.ntmps38
      go_wp2
      go_ret
      exact ⟨ret_bool HV.out.symm, (Below.refl _ _).alloc (Nat.le_refl _) _⟩
  · have HV := Lib.hid (right_no (c := c) (o := o) fun h => h1 h.1)
    go_enter Try.func38, Try.ntmps38
    go_wp2
    go_ret
    exact ⟨ret_bool HV.out.symm, (Below.refl _ _).alloc (Nat.le_refl _) _⟩
theorem step_bad (c : Int) (v : Bool) (o : Int) (s : Bool) (h : ¬ RightB c o) (w : World) :
    Calls Try.prog 28 #[.agg #[.int .i64 c, .bool v, .int .i64 o], .bool s] w fun e w' => e = .returned (.agg #[.int .i64 0, .bool false, .int .i64 0]) ∧ Below w.heap.size w w' := by
  have h1 := fun W => right_any c v o W
  rw [right_no h] at h1
  have HR := Lib.hid h1
  clear h1 h
  go_enter Try.func28, Try.ntmps28
  go_wp2_with (go_at_call 38; ((with_reducible refine (HR.out _).mono ?_); rintro e w1 ⟨rfl, hb⟩; obtain ⟨bx, by', hW, hz1⟩ := boxes2 hb; have HW := Lib.hid hW; obtain ⟨c0, f0, c1, f1, c2, f2, _⟩ := bx; obtain ⟨d0, g0, d1, g1, d2, g2, _⟩ := by'; clear hb hW))
  refine bodyPost_ret (v := .agg #[.int .i64 0, .bool false, .int .i64 0]) (by simp [results, Try.results28, go_sem, d0, d1, d2]) rfl ⟨rfl, ?_⟩
  repeat (first | with_reducible exact HW.out | (with_reducible refine Below.setCell ?_ ?_ _; rotate_left 1; focus (first | (simp; done) | (simp; omega))))
theorem step_ok (c : Int) (v : Bool) (o : Int) (s : Bool) (h : RightB c o) (w : World) :
    Calls Try.prog 28 #[.agg #[.int .i64 c, .bool v, .int .i64 o], .bool s] w fun e w' => e = .returned (.agg #[.int .i64 c, .bool (stepV c v o s), .int .i64 (stepO c v o s)]) ∧ Below w.heap.size w w' := by
  have h1 := fun W => right_any c v o W
  rw [right_yes h] at h1
  have HR := Lib.hid h1
  obtain ⟨r1, r2, r3, r4⟩ := h
  clear h1
  by_cases hs : s = v
  · obtain ⟨q1, q2⟩ := step_same (c := c) (o := o) hs
    rw [q1, q2]
    subst hs
    clear q1 q2
    go_enter Try.func28, Try.ntmps28
    go_wp2_with (go_at_call 38; ((with_reducible refine (HR.out _).mono ?_); rintro e w1 ⟨rfl, hb⟩; obtain ⟨bx, by', hW, hz1⟩ := boxes2 hb; have HW := Lib.hid hW; obtain ⟨c0, f0, c1, f1, c2, f2, _⟩ := bx; obtain ⟨d0, g0, d1, g1, d2, g2, _⟩ := by'; clear hb hW))
    refine bodyPost_ret (v := .agg #[.int .i64 c, .bool s, .int .i64 0]) (by simp [results, Try.results28, go_sem, d0, d1, d2]) rfl ⟨rfl, ?_⟩
    repeat (first | with_reducible exact HW.out | (with_reducible refine Below.setCell ?_ ?_ _; rotate_left 1; focus (first | (simp; done) | (simp; omega))))
  · have hb : (s == v) = false := by rw [beq_eq_false_iff_ne]; exact hs
    by_cases ho : o + 1 = c
    · obtain ⟨q1, q2⟩ := step_full hs ho
      rw [q1, q2]
      clear q1 q2 hs
      subst ho
      go_enter Try.func28, Try.ntmps28
      go_wp2_with (go_at_call 38; ((with_reducible refine (HR.out _).mono ?_); rintro e w1 ⟨rfl, hb⟩; obtain ⟨bx, by', hW, hz1⟩ := boxes2 hb; have HW := Lib.hid hW; obtain ⟨c0, f0, c1, f1, c2, f2, _⟩ := bx; obtain ⟨d0, g0, d1, g1, d2, g2, _⟩ := by'; clear hb hW))
      refine bodyPost_ret (v := .agg #[.int .i64 (o + 1), .bool s, .int .i64 0]) (by simp [results, Try.results28, go_sem, d0, d1, d2]) rfl ⟨rfl, ?_⟩
      repeat (first | with_reducible exact HW.out | (with_reducible refine Below.setCell ?_ ?_ _; rotate_left 1; focus (first | (simp; done) | (simp; omega))))
    · obtain ⟨q1, q2⟩ := step_more hs ho
      rw [q1, q2]
      have hob : (o + 1 == c) = false := by rw [beq_eq_false_iff_ne]; exact ho
      clear q1 q2 hs ho
      go_enter Try.func28, Try.ntmps28
      go_wp2_with (go_at_call 38; ((with_reducible refine (HR.out _).mono ?_); rintro e w1 ⟨rfl, hb⟩; obtain ⟨bx, by', hW, hz1⟩ := boxes2 hb; have HW := Lib.hid hW; obtain ⟨c0, f0, c1, f1, c2, f2, _⟩ := bx; obtain ⟨d0, g0, d1, g1, d2, g2, _⟩ := by'; clear hb hW))
      refine bodyPost_ret (v := .agg #[.int .i64 c, .bool v, .int .i64 (o + 1)]) (by simp [results, Try.results28, go_sem, d0, d1, d2]) rfl ⟨rfl, ?_⟩
      repeat (first | with_reducible exact HW.out | (with_reducible refine Below.setCell ?_ ?_ _; rotate_left 1; focus (first | (simp; done) | (simp; omega))))
end Go.Proofs.Ytdfgjfojneoljaa.v
