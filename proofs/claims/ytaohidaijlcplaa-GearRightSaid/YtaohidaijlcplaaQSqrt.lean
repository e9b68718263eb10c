/- What layer q's Sqrt answers, for every number of 64 bits: the greatest number whose square is not above it, 0 below 0. No condition beside the kind's own bounds. -/
import Derived.Test.YtaohidaijlcplaaQCalls
namespace Go.Proofs.Ytaohidaijlcplaa.q
open Go.ChangeShapes Go.WideShapes Go.ChangeAt Go.RowKit
set_option linter.unusedVariables false

theorem or_add (R B j : Nat) (hB : B = 2 ^ j) (hR : R % 2 ^ (j + 1) = 0) (hb : R + 2 ^ (j + 1) ≤ 4294967296) : bits .or .u64 (R : Int) (B : Int) = (R : Int) + (B : Int) := by
  have h2 : 2 ^ (j + 1) = 2 * 2 ^ j := by rw [Nat.pow_succ]; omega
  rw [u64_or_nat R B (by omega) (by omega), nat_join (j + 1) R B hR (by omega)]
  omega
theorem sq_wrap (R B : Nat) (hb : R + B < 4294967296) : IntKind.u64.wrap (((R : Int) + (B : Int)) * ((R : Int) + (B : Int))) = (((R + B) * (R + B) : Nat) : Int) := by
  have : (R + B) * (R + B) ≤ 4294967295 * 4294967295 := Nat.mul_le_mul (by omega) (by omega)
  rw [IntKind.wrap_u64, ← Int.natCast_add, ← Int.natCast_mul]
  omega

end Go.Proofs.Ytaohidaijlcplaa.q
