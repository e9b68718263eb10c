/- The statements' fixed answers: MulDiv(-7, 3, 2) is -11, Add(1, 2) is 3, Sqrt(99) is 9. No condition. -/
import Derived.Test.YtaohidaijlcplaaQMulDiv
import Derived.Test.YtaohidaijlcplaaQSqrt
namespace Go.Proofs.Ytaohidaijlcplaa.q
open Go.ChangeShapes Go.WideShapes Go.ChangeAt Go.RowKit
set_option linter.unusedVariables false

theorem wf64 {a : Int} (h : (Lit.int .i64 a).wf = true) : -9223372036854775808 ≤ a ∧ a ≤ 9223372036854775807 := by
  simp only [Lit.wf, IntKind.min, IntKind.max, IntKind.signed, IntKind.bits, Bool.and_eq_true, decide_eq_true_eq, if_true] at h
  omega
theorem grown_drewN (w : World) (k : Nat) : Grown w (w.drewN k) := by
  induction k with
  | zero => exact Grown.refl _
  | succ k ih => exact ih.drew

theorem grown_thenN {w w1 : World} (h : Grown w w1) (k : Nat) : Grown w (w1.drewN k) := by
  induction k with
  | zero => exact h
  | succ k ih => exact ih.drew

end Go.Proofs.Ytaohidaijlcplaa.q
