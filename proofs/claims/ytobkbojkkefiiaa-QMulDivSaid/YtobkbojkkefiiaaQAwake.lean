/- The statements' fixed answers: MulDiv(-7, 3, 2) is -11, Add(1, 2) is 3, Sqrt(99) is 9. No condition. -/
import Derived.Test.YtobkbojkkefiiaaQMulDiv
import Derived.Test.YtobkbojkkefiiaaQSqrt
namespace Go.Proofs.Ytobkbojkkefiiaa.q
open Go.ChangeShapes Go.WideShapes Go.ChangeAt Go.RowKit
set_option linter.unusedVariables false

theorem wf64 {a : Int} (h : (Lit.int .i64 a).wf = true) : -9223372036854775808 ≤ a ∧ a ≤ 9223372036854775807 := by
  simp only [Lit.wf, IntKind.min, IntKind.max, IntKind.signed, IntKind.bits, Bool.and_eq_true, decide_eq_true_eq, if_true] at h
  omega
theorem grown_drewN (w : World) (k : Nat) : Grown w (w.drewN k) := by
  induction k with
  | zero => exact Grown.refl _
  | succ k ih => exact ih.drew

theorem grown_thenN {w w1 : World} (h : Grown w w1) (k : Nat) : Grown w (w1.drewN k) := by
  induction k with
  | zero => exact h
  | succ k ih => exact ih.drew

theorem awake_any (w : World) :
    Calls Try.prog 9 #[] w fun e w' => e = .returned (.bool true) ∧ ∃ k, w' = w.drewN k := by
  have c1 := fun (w : World) => muldiv_any (-7) 3 2 (by omega) (by omega) (by omega) (by omega) (by omega) w
  have e1 : mdV (-7) 3 2 = -11 := by decide
  have e2 : mdE (-7) 3 2 = 0 := by decide
  rw [e1, e2] at c1
  have c2 := fun (w : World) => add_any 1 2 (by omega) (by omega) (by omega) (by omega) w
  have e3 : addV 1 2 = 3 := by decide
  have e4 : addB 1 2 = true := by decide
  rw [e3, e4] at c2
  have c3 := fun (w : World) => sqrt_any 99 (by omega) (by omega) w
  have e5 : sqrtV 99 = 9 := by
    unfold sqrtV
    rw [show ((99 : Int)).toNat = 99 from rfl, isq_unique (n := 99) (r := 9) (by omega) (by omega)]; rfl
  rw [e5] at c3
  clear e1 e2 e3 e4 e5
  go_enter Try.func9, Try.ntmps9
  go_wp2_with (first | (go_at_call 20; with_reducible refine (c1 _).mono ?_; rintro e w' ⟨rfl, kd, rfl⟩) | (go_at_call 10; with_reducible refine (c2 _).mono ?_; rintro e w' ⟨rfl, rfl⟩) | (go_at_call 22; with_reducible refine (c3 _).mono ?_; rintro e w' ⟨rfl, rfl⟩))
  go_ret
  exact ⟨rfl, _, rfl⟩
end Go.Proofs.Ytobkbojkkefiiaa.q
