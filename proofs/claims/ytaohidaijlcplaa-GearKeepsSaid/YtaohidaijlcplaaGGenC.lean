/- What layer gen's To and By answer, of any limits and any generator; what was in memory is as it was. No condition but what each line says. -/
import Derived.Test.YtaohidaijlcplaaGGenB
namespace Go.Proofs.Ytaohidaijlcplaa.gn
open Go.ChangeShapes Go.WideShapes Go.ChangeAt Go.RowKit Go.Proofs.Ytaohidaijlcplaa.k Go.Proofs.Ytaohidaijlcplaa.b
set_option linter.unusedVariables false

theorem sgn_up {a b : Int} (h : a < b) : sgn a b = 1 := by unfold sgn; rw [if_pos h]
theorem sgn_same (a : Int) : sgn a a = 0 := by unfold sgn; rw [if_neg (by omega), if_neg (by omega)]
theorem sgn_down {a b : Int} (h : b < a) : sgn a b = -1 := by unfold sgn; rw [if_neg (by omega), if_pos h]
theorem sgn_not_down {a b : Int} (h : a ≤ b) : (sgn a b == -1) = false := by
  unfold sgn
  by_cases h1 : a < b
  · rw [if_pos h1]; rfl
  · rw [if_neg h1, if_neg (by omega)]; rfl
theorem sgn_not_up {a b : Int} (h : b ≤ a) : (sgn a b == 1) = false := by
  unfold sgn
  rw [if_neg (by omega)]
  by_cases h1 : b < a
  · rw [if_pos h1]; rfl
  · rw [if_neg h1]; rfl
end Go.Proofs.Ytaohidaijlcplaa.gn
